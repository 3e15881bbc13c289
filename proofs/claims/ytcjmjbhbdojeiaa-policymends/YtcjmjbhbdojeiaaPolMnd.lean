/-
  Ours: the walk of PolicyMends (gen_polmnd.py).
-/
import Derived.Test.YtcjmjbhbdojeiaaPolMs
import Derived.Test.YtcjmjbhbdojeiaaPolMnM
import Derived.Test.YtcjmjbhbdojeiaaPolPrg
import Derived.Deep.CutRange
import Derived.Deep.RegionHeld3
namespace Go.Proofs.Ytcjmjbhbdojeiaa
open Go.RowKit LedM PolM

theorem rd_grown0 {w w' : World} {v : Value} {xs : List Int} {H : Nat} (h : Rd w v (bkL xs)) (hg : w.grownBy w' (some H)) (hn : 0 < xs.length → v.ownBlock ≠ some H) : Rd w' v (bkL xs) := by
  by_cases h0 : 0 < xs.length
  · exact h.grown hg (fun g e e2 => by injection e2 with e2; subst e2; exact hn h0 e)
  · obtain ⟨ao, cap, rfl, h1, h2, _⟩ := h
    exact ⟨ao, cap, rfl, h1, h2, fun i hi => by rw [bkL_len] at hi; omega⟩
structure MN (w : World) (l : List Int) (s : Value) (ml R : List Int) (v : Value) (G : Nat) (w' : World) : Prop where
  m : MS w ml R v G w'
  p : Blk w.heap.size 24 (polL l s) w'
theorem MN.later {w w1 w2 : World} {l : List Int} {s : Value} {ml R : List Int} {v : Value} {G : Nat} (h : MN w l s ml R v G w1) (hb : Below w1.heap.size w1 w2) : MN w l s ml R v G w2 := ⟨h.m.later hb, h.p.below hb⟩
/-- A struct put into a block of its own, or into one that was made later than all that stands. -/
theorem MN.grown {w w1 w2 : World} {l : List Int} {s : Value} {ml R : List Int} {v : Value} {G H : Nat} (h : MN w l s ml R v G w1) (hg : w1.grownBy w2 (some H)) (h1 : w.heap.size < H) (h2 : G ≠ H) (h3 : 0 < R.length → v.ownBlock ≠ some H) : MN w l s ml R v G w2 :=
  ⟨⟨below_row h.m.bb hg (by omega), h.m.q.grown hg (fun e => by injection e with e; omega), rd_grown0 h.m.r hg h3⟩, h.p.grown hg (fun e => by injection e with e; omega)⟩
theorem grown_new {w1 w2 : World} {o : Obj} {H : Nat} (g : (w1.alloc o).grownBy w2 (some H)) (hH : H = w1.heap.size) : w1.grownBy w2 (some H) := by
  subst hH
  exact ⟨g.os, g.tape, g.output, Nat.le_trans (by simp) g.size, fun k hk hn => (g.block k (by simp; omega) hn).trans ((below_alloc w1 _).block k hk)⟩
theorem rd_own_lt {w : World} {v : Value} {vs : List Value} (h : Rd w v vs) (hn : 0 < vs.length) (g : Nat) (e : v.ownBlock = some g) : g < w.heap.size := by
  obtain ⟨ao, cap, rfl, _, _, H⟩ := h
  obtain ⟨g', o', e', lt, _⟩ := H 0 hn
  subst e'
  have e : some g' = some g := e
  injection e with e
  omega

set_option maxRecDepth 20000 in
set_option maxHeartbeats 2000000 in
theorem mends_any (l hs : List Int) (s : Value) (w : World) (hl : l.length = 17) (ok : ∀ k, i64 (l.getD k 0)) (hr : Rd w s (bkL hs)) (okh : ∀ k, i64 (hs.getD k 0)) :
    Calls Try.prog 3 #[PV l s] w fun e w' => e = .returned (.bool true) ∧ Below w.heap.size w w' := by
  by_cases hbig : 1000 < hs.length
  · obtain ⟨ao, cp, rfl, -, -, -⟩ := hr
    rw [bkL_len]
    show Calls _ _ #[.agg (polL l (.slice ao hs.length cp)).toArray] _ _
    have c17 := (Blk.new 24 (polL l (.slice ao hs.length cp)) w).cell 17 _ (polL_hol hl)
    have BB : Hid (Below w.heap.size w (w.alloc (.cells (polL l (.slice ao hs.length cp)).toArray 24))) := below_alloc _ _
    generalize polL l (.slice ao hs.length cp) = cs at *
    generalize hs.length = N at *
    have hbig' : (1000 : Int) < (N : Int) := by omega
    go_enter Try.func3, Try.ntmps3
    go_wp2_with fail
    go_ret
    exact ⟨rfl, BB.out⟩
  have hb : hs.length ≤ 1000000 := by omega
  have hsm : ¬ (1000 : Int) < (hs.length : Int) := by omega
  have MD : Hid (∀ w', Below w.heap.size w w' → Calls Try.prog 9 #[PV l s] w' fun e w'' => ∃ v, e = .returned (PV (madeL l) v) ∧ Rd w'' v (bkL (risL 0 64 hs)) ∧ Below w'.heap.size w' w'') := fun w' h => made_any l hs s w' hl ok (hr.later h) hb okh
  have LN : Hid ((madeL l).length = 17) := made_len l
  have GD : Hid (good (madeL l) (risL 0 64 hs) = true) := made_good l hs
  have HB : Hid ((risL 0 64 hs).length ≤ 1000000) := Nat.le_trans (risL_len hs 0 64) (by decide)
  have NU := nums GD.out
  have NS : Hid (Nums (madeL l)) := NU
  clear NU
  have SZ : Hid (∀ t : Value, (Try.prog.info? 24).map (·.size) = some (polL (madeL l) t).length) := fun t => by rw [polL_len LN.out]; exact sizeP
  have SZ0 : Hid (∀ t : Value, (Try.prog.info? 24).map (·.size) = some (polL l t).length) := fun t => by rw [polL_len hl]; exact sizeP
  have FT : Hid (∀ t : Value, 0 + (polL (madeL l) t).length ≤ polZ.length) := fun t => by rw [polL_len LN.out]; exact Nat.le_refl 18
  have RSS : Hid (∀ w', Below w.heap.size w w' → Rd w' s (bkL hs)) := fun w' h => hr.later h
  obtain ⟨ao, cp, rfl, -, -, -⟩ := hr
  rw [bkL_len] at MD RSS ⊢
  show Calls _ _ #[.agg (polL l (.slice ao hs.length cp)).toArray] _ _
  have PB := Blk.new 24 (polL l (.slice ao hs.length cp)) w
  have c17 := PB.cell 17 _ (polL_hol hl)
  have BP : Hid (Blk w.heap.size 24 (polL l (.slice ao hs.length cp)) (w.alloc (.cells (polL l (.slice ao hs.length cp)).toArray 24))) := PB
  have BB : Hid (Below w.heap.size w (w.alloc (.cells (polL l (.slice ao hs.length cp)).toArray 24))) := below_alloc _ _
  have FT0 : Hid (∀ t : Value, 0 + (polL l t).length ≤ polZ.length) := fun t => by rw [polL_len hl]; exact Nat.le_refl 18
  have FT1 : Hid (∀ t : Value, polZ.length ≤ 0 + (polL l t).length) := fun t => by rw [polL_len hl]; exact Nat.le_refl 18
  have BU : Hid (∀ (q : Value) (w' : World) (k : Nat), k < 18 → Rd w' q (bkL (risL 0 64 hs)) → Calls Try.prog 11 #[PV (madeL l) q, .int .i64 ((k : Int) + 1), .bool true] w' fun e w'' => ∃ v, e = .returned (PV ((madeL l).set k (upL.getD k 0)) v) ∧ Rd w'' v (bkL (if k = 17 then [3652060] else risL 0 64 hs)) ∧ Below w'.heap.size w' w'') := fun q w' k hk h => beyond_up _ _ q w' (made_len l) h k hk
  have BD : Hid (∀ (q : Value) (w' : World) (k : Nat), k < 18 → Rd w' q (bkL (risL 0 64 hs)) → Calls Try.prog 11 #[PV (madeL l) q, .int .i64 ((k : Int) + 1), .bool false] w' fun e w'' => ∃ v, e = .returned (PV ((madeL l).set k ((dnL (madeL l)).getD k 0)) v) ∧ Rd w'' v (bkL (if k = 17 then [5, 5] else risL 0 64 hs)) ∧ Below w'.heap.size w' w'') := fun q w' k hk h => beyond_dn _ _ q w' (made_len l) h k hk (nums (made_good l hs)).least (nums (made_good l hs)).base
  have CU : Hid (∀ (q : Value) (w' : World) (k : Nat), k < 18 → Rd w' q (bkL (if k = 17 then [3652060] else risL 0 64 hs)) → Calls Try.prog 10 #[PV ((madeL l).set k (upL.getD k 0)) q] w' fun e w'' => e = .returned (.tuple #[.int .i64 120, .int .i64 ((k : Int) + 1)]) ∧ Below w'.heap.size w' w'') := fun q w' k hk h => by
    have := check_at ((madeL l).set k (upL.getD k 0)) (if k = 17 then [3652060] else risL 0 64 hs) q w' (by rw [List.length_set]; exact made_len l) h (by split; decide; exact Nat.le_trans (risL_len hs 0 64) (by decide))
    rw [chk_up (made_len l) (made_may l hs) k hk] at this
    exact this
  have CD : Hid (∀ (q : Value) (w' : World) (k : Nat), k < 18 → Rd w' q (bkL (if k = 17 then [5, 5] else risL 0 64 hs)) → Calls Try.prog 10 #[PV ((madeL l).set k ((dnL (madeL l)).getD k 0)) q] w' fun e w'' => e = .returned (.tuple #[.int .i64 120, .int .i64 ((k : Int) + 1)]) ∧ Below w'.heap.size w' w'') := fun q w' k hk h => by
    have := check_at ((madeL l).set k ((dnL (madeL l)).getD k 0)) (if k = 17 then [5, 5] else risL 0 64 hs) q w' (by rw [List.length_set]; exact made_len l) h (by split; decide; exact Nat.le_trans (risL_len hs 0 64) (by decide))
    rw [chk_dn (made_len l) (made_may l hs) k hk] at this
    exact this
  have CM : Hid (∀ (q : Value) (w' : World), Rd w' q (bkL (risL 0 64 hs)) → Calls Try.prog 10 #[PV (madeL l) q] w' fun e w'' => e = .returned (.tuple #[.int .i64 0, .int .i64 0]) ∧ Below w'.heap.size w' w'') := fun q w' h => by
    have := check_at (madeL l) (risL 0 64 hs) q w' (made_len l) h HB.out
    rw [chk_ok (made_may l hs)] at this
    exact this
  have CA : Hid (∀ (m ys : List Int) (q : Value) (w' : World), m.length = 17 → ys.length ≤ 1000000 → Rd w' q (bkL ys) → Calls Try.prog 10 #[PV m q] w' fun e w'' => e = .returned (.tuple #[.int .i64 (ev (chk m ys)), .int .i64 (chk m ys : Int)]) ∧ Below w'.heap.size w' w'') := fun m ys q w' hm hy h => check_at m ys q w' hm h hy
  have RS : Hid (∀ w', Below w.heap.size w w' → Rd w' (.slice ao hs.length cp) (bkL hs)) := RSS.out
  have MD2 : Hid (∀ last, last ≤ 18 → chk (mixL (madeL l) l last) (if last = 18 then risL 0 64 hs else hs) = 0 ∨
    ∃ n, n < 18 ∧ last ≤ n ∧ chk (mixL (madeL l) l last) (if last = 18 then risL 0 64 hs else hs) = n + 1 ∧
      chk ((madeL l).set n (l.getD n 0)) (if n = 17 then hs else risL 0 64 hs) = n + 1 ∧
      (mixL (madeL l) l last).set n ((madeL l).getD n 0) = mixL (madeL l) l (n + 1)) := fun last h => mend hl last h
  have ML : Hid (∀ n, (mixL (madeL l) l n).length = 17) := fun n => mix_len (made_len l) hl n
  have MA : Hid (mixL (madeL l) l 18 = madeL l) := mix_all (made_len l) hl
  have HS : Hid (hs.length ≤ 1000000) := hb
  have LL : Hid (l.length = 17) := hl
  clear PB hl hbig ok okh
  generalize madeL l = ml at *
  generalize risL 0 64 hs = R at *
  go_enter Try.func3, Try.ntmps3
  go_wp2_with (first
  | (refine step_load rfl 24 _ rfl w.heap.size 0 rfl (polL l (.slice ao hs.length cp)) _ (Blk.all BP.out) Try.underlying24 rfl (SZ0.out _) ?_))
  refine (MD.out _ BB.out).mono ?_
  rintro e w1 ⟨v, rfl, rv, b1⟩
  have B1 : Hid (Below w.heap.size w w1) := below_trans BB.out b1
  have R1 : Hid (Rd w1 v (bkL R)) := rv
  have NZ : Hid (Blk w1.heap.size 24 polZ (w1.alloc (.cells #[.int .i64 0, .int .i64 0, .int .i64 0, .int .i64 0, .int .i64 0, .int .i64 0, .int .i64 0, .int .i64 0, .int .i64 0, .int .i64 0, .int .i64 0, .int .i64 0, .int .i64 0, .int .i64 0, .int .i64 0, .int .i64 0, .int .i64 0, .slice none 0 0] 24))) := Blk.new _ _ _
  have OV : Hid (∀ u ∈ polL ml v, u.oneCell' = true) := by
    obtain ⟨a1, c1, rfl, -, -, -⟩ := rv
    exact polL_one
  have P1 : Hid (Blk w.heap.size 24 (polL l (.slice ao hs.length cp)) w1) := BP.out.below b1
  have LW : Hid (w.heap.size < w1.heap.size) := P1.out.lt
  have SV : Hid (∃ a1 n1 c1, v = .slice a1 n1 c1) := by
    obtain ⟨a1, c1, rfl, -, -, -⟩ := rv
    exact ⟨_, _, _, rfl⟩
  have OL : Hid (0 < R.length → ∀ g, v.ownBlock = some g → g < w1.heap.size) := fun h0 g e => rd_own_lt rv (by rw [bkL_len]; exact h0) g e
  clear rv b1 c17 MD BP BB
  obtain ⟨G, hG⟩ : ∃ G, w1.heap.size = G := ⟨_, rfl⟩
  have HG : Hid (w1.heap.size = G) := hG
  clear hG
  go_upto_region 4 with (first
  | ((with_reducible refine at_store ?_); refine step_store rfl 24 _ _ rfl w1.heap.size 0 24 polZ (polL ml v) rfl rfl NZ.out (FT.out _) (SZ.out _) OV.out ?_; intro w2 nb2 g2))
  have S2 : Hid (MS w ml R v w1.heap.size w2) := MS.start LN.out B1.out R1.out nb2 g2
  rw [HG.out] at S2
  try rw [HG.out]
  have P2 : Hid (Blk w.heap.size 24 (polL l (.slice ao hs.length cp)) w2) := P1.out.grown (grown_new g2 rfl) (fun e => by injection e with e; have := LW.out; omega)
  have T2 : Hid (MN w l (.slice ao hs.length cp) ml R v G w2) := ⟨S2.out, P2.out⟩
  have GL : Hid (w.heap.size < G) := by have := LW.out; rw [HG.out] at this; exact this
  clear nb2 g2 NZ R1 B1 P1 P2
  have hu := Try.underlying24
  have hi := SZ.out v
  have LNl := LN.out
  have OLG : Hid (0 < R.length → ∀ g, v.ownBlock = some g → g < G) := fun h0 g e => by have := OL.out h0 g e; have e2 := HG.out; omega
  clear OL
  go_wp2_with (first
  | (refine step_load rfl 24 _ rfl G 0 rfl (polL ml v) _ (Blk.all T2.out.m.q) Try.underlying24 rfl (SZ.out _) ?_)
  | (refine step_load rfl 24 _ rfl w.heap.size 0 rfl (polL l (.slice ao hs.length cp)) _ (Blk.all T2.out.p) Try.underlying24 rfl (SZ0.out _) ?_))
  refine (CM.out _ _ T2.out.m.r).mono ?_
  rintro e w3 ⟨rfl, b3⟩
  have T3 : Hid (MN w l (.slice ao hs.length cp) ml R v G w3) := T2.out.later b3
  clear b3 T2 S2
  go_wp2_with fail
  go_loopw [6, 7, 8, 9, 10] (fun vk _ _ _ _ wr => ∃ k : Nat, vk = .int .i64 ((k : Int) + 1) ∧ k ≤ 18 ∧ Hid (MN w l (.slice ao hs.length cp) ml R v G wr)) (fun vk _ _ _ _ _ => 20 - (intOf vk).toNat)
  case atStart => exact ⟨0, rfl, by omega, T3.out⟩
  case round =>
    obtain ⟨k, rfl, hk, T4⟩ := hrel
    by_cases hlt : (k : Int) + 1 ≤ 18
    · have e1 : (((k : Int) + 1) != ((k : Int) + 1)) = false := by simp
      have BU1 : Hid (∀ w', Rd w' v (bkL R) → Calls Try.prog 11 #[PV ml v, .int .i64 ((k : Int) + 1), .bool true] w' fun e w'' => ∃ v, e = .returned (PV (ml.set k (upL.getD k 0)) v) ∧ Rd w'' v (bkL (if k = 17 then [3652060] else R)) ∧ Below w'.heap.size w' w'') := fun w' h => BU.out v w' k (by omega) h
      have BD1 : Hid (∀ w', Rd w' v (bkL R) → Calls Try.prog 11 #[PV ml v, .int .i64 ((k : Int) + 1), .bool false] w' fun e w'' => ∃ v, e = .returned (PV (ml.set k ((dnL ml).getD k 0)) v) ∧ Rd w'' v (bkL (if k = 17 then [5, 5] else R)) ∧ Below w'.heap.size w' w'') := fun w' h => BD.out v w' k (by omega) h
      have CU1 : Hid (∀ q w', Rd w' q (bkL (if k = 17 then [3652060] else R)) → Calls Try.prog 10 #[PV (ml.set k (upL.getD k 0)) q] w' fun e w'' => e = .returned (.tuple #[.int .i64 120, .int .i64 ((k : Int) + 1)]) ∧ Below w'.heap.size w' w'') := fun q w' h => CU.out q w' k (by omega) h
      have CD1 : Hid (∀ q w', Rd w' q (bkL (if k = 17 then [5, 5] else R)) → Calls Try.prog 10 #[PV (ml.set k ((dnL ml).getD k 0)) q] w' fun e w'' => e = .returned (.tuple #[.int .i64 120, .int .i64 ((k : Int) + 1)]) ∧ Below w'.heap.size w' w'') := fun q w' h => CD.out q w' k (by omega) h
      generalize ml.set k (upL.getD k 0) = mu at *
      generalize ml.set k ((dnL ml).getD k 0) = mdn at *
      generalize (if k = 17 then [3652060] else R) = yu at *
      generalize (if k = 17 then [5, 5] else R) = yd at *
      clear BU BD CU CD
      go_wp2_with (first
      | (refine step_load rfl 24 _ rfl G 0 rfl (polL ml v) _ (Blk.all T4.out.m.q) Try.underlying24 rfl (SZ.out _) ?_)
      | (refine step_load rfl 24 _ rfl w.heap.size 0 rfl (polL l (.slice ao hs.length cp)) _ (Blk.all T4.out.p) Try.underlying24 rfl (SZ0.out _) ?_))
      refine (BU1.out _ T4.out.m.r).mono ?_
      rintro e w5 ⟨v5, rfl, r5, b5⟩
      have T5 : Hid (MN w l (.slice ao hs.length cp) ml R v G w5) := T4.out.later b5
      have R5 : Hid (Rd w5 v5 (bkL yu)) := r5
      clear b5 r5
      go_wp2_with fail
      refine (CU1.out _ _ R5.out).mono ?_
      rintro e w6 ⟨rfl, b6⟩
      have T6 : Hid (MN w l (.slice ao hs.length cp) ml R v G w6) := T5.out.later b6
      clear b6 R5 CU1 BU1
      go_wp2_with (first
      | (refine step_load rfl 24 _ rfl G 0 rfl (polL ml v) _ (Blk.all T6.out.m.q) Try.underlying24 rfl (SZ.out _) ?_)
      | (refine step_load rfl 24 _ rfl w.heap.size 0 rfl (polL l (.slice ao hs.length cp)) _ (Blk.all T6.out.p) Try.underlying24 rfl (SZ0.out _) ?_))
      refine (BD1.out _ T6.out.m.r).mono ?_
      rintro e w7 ⟨v7, rfl, r7, b7⟩
      have T7 : Hid (MN w l (.slice ao hs.length cp) ml R v G w7) := T6.out.later b7
      have R7 : Hid (Rd w7 v7 (bkL yd)) := r7
      clear b7 r7
      go_wp2_with fail
      refine (CD1.out _ _ R7.out).mono ?_
      rintro e w8 ⟨rfl, b8⟩
      have T8 : Hid (MN w l (.slice ao hs.length cp) ml R v G w8) := T7.out.later b8
      clear b8 R7 CD1 BD1
      go_wp2_with fail
      go_roundw
      case rel => exact ⟨k + 1, by go_num, by omega, T8.out⟩
      case measure => simp [intOf]; omega
    · clear BU BD CU CD
      have NZ : Hid (Blk wr.heap.size 24 polZ (wr.alloc (.cells #[.int .i64 0, .int .i64 0, .int .i64 0, .int .i64 0, .int .i64 0, .int .i64 0, .int .i64 0, .int .i64 0, .int .i64 0, .int .i64 0, .int .i64 0, .int .i64 0, .int .i64 0, .int .i64 0, .int .i64 0, .int .i64 0, .int .i64 0, .slice none 0 0] 24))) := Blk.new _ _ _
      go_upto_region 16 with (first
      | (refine step_load rfl 24 _ rfl w.heap.size 0 rfl (polL l (.slice ao hs.length cp)) _ (Blk.all T4.out.p) Try.underlying24 rfl (SZ0.out _) ?_)
      | ((with_reducible refine at_store ?_); refine step_store rfl 24 _ _ rfl wr.heap.size 0 24 polZ (polL l (.slice ao hs.length cp)) rfl rfl NZ.out (FT0.out _) (SZ0.out _) polL_one ?_; intro w5 nb5 g5))
      have GB : Hid (G < wr.heap.size) := T4.out.m.q.lt
      have Q5 : Hid (Blk wr.heap.size 24 (polL l (.slice ao hs.length cp)) w5) := blk_put (FT1.out _) nb5
      have T5 : Hid (MN w l (.slice ao hs.length cp) ml R v G w5) := T4.out.grown (grown_new g5 rfl) (by have := GB.out; have := GL.out; omega) (by have := GB.out; omega) (fun h0 e => by have := OLG.out h0 _ e; have := GB.out; omega)
      clear nb5 g5 NZ T4
      obtain ⟨H, hH⟩ : ∃ H, wr.heap.size = H := ⟨_, rfl⟩
      rw [hH] at Q5 GB
      try rw [hH]
      clear hH
      have HW : Hid (w.heap.size < H ∧ G < H) := ⟨by have := GB.out; have := GL.out; omega, GB.out⟩
      go_wp2_with fail
      go_loopw [2, 4, 5, 11, 13, 14, 15, 16] (fun _ _ _ vl vk _ _ _ wx => ∃ k last : Nat, vk = .int .i64 (k : Int) ∧ vl = .int .i64 (last : Int) ∧ k ≤ last ∧ last ≤ 18 ∧ k ≤ 18 ∧ Hid (MN w l (.slice ao hs.length cp) ml R v G wx) ∧ Hid (Blk H 24 (polL (mixL ml l last) (if last = 18 then v else (.slice ao hs.length cp))) wx)) (fun _ _ _ _ vk _ _ _ _ => 18 - (intOf vk).toNat)
      case atStart => exact ⟨0, 0, rfl, rfl, by omega, by omega, by omega, T5.out, Q5.out⟩
      case round =>
        obtain ⟨k2, last, rfl, rfl, hkl, hl18, hk18, T6, Q6⟩ := hrel
        have RQ : Hid (∀ w', MN w l (.slice ao hs.length cp) ml R v G w' → Rd w' (if last = 18 then v else (.slice ao hs.length cp)) (bkL (if last = 18 then R else hs))) := fun w' h => by
          by_cases h18 : last = 18
          · rw [if_pos h18, if_pos h18]; exact h.m.r
          · rw [if_neg h18, if_neg h18]; exact RS.out w' h.m.bb
        have YL : Hid ((if last = 18 then R else hs).length ≤ 1000000) := by
          show _ ≤ _
          split
          · exact HB.out
          · exact HS.out
        have CQ : Hid (∀ w', MN w l (.slice ao hs.length cp) ml R v G w' → Calls Try.prog 10 #[PV (mixL ml l last) (if last = 18 then v else (.slice ao hs.length cp))] w' fun e w'' => e = .returned (.tuple #[.int .i64 (ev (chk (mixL ml l last) (if last = 18 then R else hs))), .int .i64 (chk (mixL ml l last) (if last = 18 then R else hs) : Int)]) ∧ Below w'.heap.size w' w'') := fun w' h => CA.out _ _ _ w' (ML.out last) YL.out (RQ.out w' h)
        have SQ : Hid ((Try.prog.info? 24).map (·.size) = some (polL (mixL ml l last) (if last = 18 then v else (.slice ao hs.length cp))).length) := by show _ = _; rw [polL_len (ML.out last)]; exact sizeP
        have ZQ : Hid (chk (mixL ml l last) (if last = 18 then R else hs) = 0 → ∀ w', MN w l (.slice ao hs.length cp) ml R v G w' → Calls Try.prog 10 #[PV (mixL ml l last) (if last = 18 then v else (.slice ao hs.length cp))] w' fun e w'' => e = .returned (.tuple #[.int .i64 0, .int .i64 0]) ∧ Below w'.heap.size w' w'') := fun h0 w' h => by
          have := CQ.out w' h
          rw [h0] at this
          exact this
        by_cases hlt2 : (k2 : Int) < 18
        · rcases MD2.out last hl18 with h0 | ⟨n, hn, hln, hc, hc2, hset⟩
          · have C0 := ZQ.out h0
            have CZ : Hid (∀ w', MN w l (.slice ao hs.length cp) ml R v G w' → Calls Try.prog 10 #[PV (mixL ml l last) (if last = 18 then v else (.slice ao hs.length cp))] w' fun e w'' => e = .returned (.tuple #[.int .i64 0, .int .i64 0]) ∧ Below w'.heap.size w' w'') := C0
            clear C0 ZQ CQ RQ YL h0
            generalize mixL ml l last = QL at *
            generalize (if last = 18 then v else (.slice ao hs.length cp)) = HV at *
            go_wp2_with (first
              | (refine step_load rfl 24 _ rfl H 0 rfl (polL QL HV) _ (Blk.all Q6.out) Try.underlying24 rfl SQ.out ?_))
            refine (CZ.out _ T6.out).mono ?_
            rintro e w7 ⟨rfl, b7⟩
            have T7 : Hid (MN w l (.slice ao hs.length cp) ml R v G w7) := T6.out.later b7
            have Q7 : Hid (Blk H 24 (polL QL HV) w7) := Q6.out.below b7
            clear b7
            go_wp2_with (first
              | (refine step_load rfl 24 _ rfl H 0 rfl (polL QL HV) _ (Blk.all Q7.out) Try.underlying24 rfl SQ.out ?_))
            refine (CZ.out _ T7.out).mono ?_
            rintro e w8 ⟨rfl, b8⟩
            have T8 : Hid (MN w l (.slice ao hs.length cp) ml R v G w8) := T7.out.later b8
            clear b8
            go_wp2_with fail
            go_ret
            exact ⟨rfl, T8.out.m.bb⟩
          · have C1 : Hid (∀ w', MN w l (.slice ao hs.length cp) ml R v G w' → Calls Try.prog 10 #[PV (mixL ml l last) (if last = 18 then v else (.slice ao hs.length cp))] w' fun e w'' => e = .returned (.tuple #[.int .i64 120, .int .i64 ((n : Int) + 1)]) ∧ Below w'.heap.size w' w'') := fun w' h => by
              have := CQ.out w' h
              rw [hc] at this
              exact this
            have M1 : Hid (∀ w', Calls Try.prog 12 #[PV ml v, PV l (.slice ao hs.length cp), .int .i64 ((n : Int) + 1)] w' fun e w'' => e = .returned (PV (ml.set n (l.getD n 0)) (mdS v (.slice ao hs.length cp) n)) ∧ Below w'.heap.size w' w'') := fun w' => by
              obtain ⟨a1, n1, c1, hv⟩ := SV.out
              rw [hv]
              exact mended_at ml l a1 ao n1 hs.length c1 cp LN.out LL.out w' n hn
            have CS : Hid (∀ w', MN w l (.slice ao hs.length cp) ml R v G w' → Calls Try.prog 10 #[PV (ml.set n (l.getD n 0)) (mdS v (.slice ao hs.length cp) n)] w' fun e w'' => e = .returned (.tuple #[.int .i64 120, .int .i64 ((n : Int) + 1)]) ∧ Below w'.heap.size w' w'') := fun w' h => by
              have hrd : Rd w' (mdS v (.slice ao hs.length cp) n) (bkL (if n = 17 then hs else R)) := by
                unfold mdS
                by_cases h17 : n = 17
                · rw [if_pos h17, if_pos h17]; exact RS.out w' h.m.bb
                · rw [if_neg h17, if_neg h17]; exact h.m.r
              have := CA.out (ml.set n (l.getD n 0)) (if n = 17 then hs else R) _ w' (by rw [List.length_set]; exact LN.out) (by split; exact HS.out; exact HB.out) hrd
              rw [hc2] at this
              exact this
            have HE : Hid (mdS (if last = 18 then v else (.slice ao hs.length cp)) v n = if n + 1 = 18 then v else (.slice ao hs.length cp)) := by
              show _ = _
              unfold mdS
              rw [if_neg (show ¬ last = 18 by omega)]
              by_cases h17 : n = 17
              · rw [if_pos h17, if_pos (by omega)]
              · rw [if_neg h17, if_neg (by omega)]
            have M2 : Hid (∀ w', Calls Try.prog 12 #[PV (mixL ml l last) (if last = 18 then v else (.slice ao hs.length cp)), PV ml v, .int .i64 ((n : Int) + 1)] w' fun e w'' => e = .returned (PV (mixL ml l (n + 1)) (if n + 1 = 18 then v else (.slice ao hs.length cp))) ∧ Below w'.heap.size w' w'') := fun w' => by
              rw [← HE.out, ← hset]
              rw [if_neg (show ¬ last = 18 by omega)]
              obtain ⟨a1, n1, c1, hv⟩ := SV.out
              rw [hv]
              exact mended_at (mixL ml l last) ml ao a1 hs.length n1 cp c1 (ML.out last) LN.out w' n hn
            have OS1 : Hid (∀ u ∈ polL (ml.set n (l.getD n 0)) (mdS v (.slice ao hs.length cp) n), u.oneCell' = true) := by
              obtain ⟨a1, n1, c1, hv⟩ := SV.out
              show ∀ u ∈ _, _
              unfold mdS
              split
              · exact polL_one
              · rw [hv]; exact polL_one
            have OS2 : Hid (∀ u ∈ polL (mixL ml l (n + 1)) (if n + 1 = 18 then v else (.slice ao hs.length cp)), u.oneCell' = true) := by
              obtain ⟨a1, n1, c1, hv⟩ := SV.out
              show ∀ u ∈ _, _
              split
              · rw [hv]; exact polL_one
              · exact polL_one
            have SZ1 : Hid ((Try.prog.info? 24).map (·.size) = some (polL (ml.set n (l.getD n 0)) (mdS v (.slice ao hs.length cp) n)).length ∧ (polL (ml.set n (l.getD n 0)) (mdS v (.slice ao hs.length cp) n)).length = 18) := by show _ ∧ _; rw [polL_len (by rw [List.length_set]; exact LN.out)]; exact ⟨sizeP, rfl⟩
            have SZ2 : Hid ((Try.prog.info? 24).map (·.size) = some (polL (mixL ml l (n + 1)) (if n + 1 = 18 then v else (.slice ao hs.length cp))).length ∧ (polL (mixL ml l (n + 1)) (if n + 1 = 18 then v else (.slice ao hs.length cp))).length = 18) := by show _ ∧ _; rw [polL_len (ML.out (n + 1))]; exact ⟨sizeP, rfl⟩
            have LQ18 : Hid ((polL (mixL ml l last) (if last = 18 then v else (.slice ao hs.length cp))).length = 18) := polL_len (ML.out last)
            have e1 : (((n : Int) + 1) != ((n : Int) + 1)) = false := by simp
            clear ZQ CQ RQ YL hc hc2 hset HE
            generalize mixL ml l last = QL at *
            generalize (if last = 18 then v else (.slice ao hs.length cp)) = HV at *
            generalize ml.set n (l.getD n 0) = SL at *
            generalize mdS v (.slice ao hs.length cp) n = SW at *
            obtain ⟨QN, hQN⟩ : ∃ QN, mixL ml l (n + 1) = QN := ⟨_, rfl⟩
            obtain ⟨HN, hHN⟩ : ∃ HN, (if n + 1 = 18 then v else (.slice ao hs.length cp)) = HN := ⟨_, rfl⟩
            rw [hQN, hHN] at M2 OS2 SZ2
            have HQN : Hid (mixL ml l (n + 1) = QN) := hQN
            have HHN : Hid ((if n + 1 = 18 then v else (.slice ao hs.length cp)) = HN) := hHN
            clear hQN hHN
            go_wp2_with (first
              | (refine step_load rfl 24 _ rfl H 0 rfl (polL QL HV) _ (Blk.all Q6.out) Try.underlying24 rfl SQ.out ?_))
            refine (C1.out _ T6.out).mono ?_
            rintro e w7 ⟨rfl, b7⟩
            have T7 : Hid (MN w l (.slice ao hs.length cp) ml R v G w7) := T6.out.later b7
            have Q7 : Hid (Blk H 24 (polL QL HV) w7) := Q6.out.below b7
            clear b7 T6 Q6 C1
            go_wp2_with (first
              | (refine step_load rfl 24 _ rfl G 0 rfl (polL ml v) _ (Blk.all T7.out.m.q) Try.underlying24 rfl (SZ.out _) ?_)
              | (refine step_load rfl 24 _ rfl w.heap.size 0 rfl (polL l (.slice ao hs.length cp)) _ (Blk.all T7.out.p) Try.underlying24 rfl (SZ0.out _) ?_))
            refine (M1.out _).mono ?_
            rintro e w8 ⟨rfl, b8⟩
            have T8 : Hid (MN w l (.slice ao hs.length cp) ml R v G w8) := T7.out.later b8
            have Q8 : Hid (Blk H 24 (polL QL HV) w8) := Q7.out.below b8
            have NZ : Hid (Blk w8.heap.size 24 polZ (w8.alloc (.cells #[.int .i64 0, .int .i64 0, .int .i64 0, .int .i64 0, .int .i64 0, .int .i64 0, .int .i64 0, .int .i64 0, .int .i64 0, .int .i64 0, .int .i64 0, .int .i64 0, .int .i64 0, .int .i64 0, .int .i64 0, .int .i64 0, .int .i64 0, .slice none 0 0] 24))) := Blk.new _ _ _
            have FF : Hid (0 + (polL SL SW).length ≤ polZ.length ∧ polZ.length ≤ 0 + (polL SL SW).length) := by show _ ∧ _; rw [SZ1.out.2]; exact ⟨Nat.le_refl 18, Nat.le_refl 18⟩
            clear b8 T7 Q7 M1
            go_upto_region 25 with (first
            | ((with_reducible refine at_store ?_); refine step_store rfl 24 _ _ rfl w8.heap.size 0 24 polZ (polL SL SW) rfl rfl NZ.out FF.out.1 SZ1.out.1 OS1.out ?_; intro w9 nb9 g9))
            have HL8 : Hid (H < w8.heap.size) := Q8.out.lt
            have T9 : Hid (MN w l (.slice ao hs.length cp) ml R v G w9) := T8.out.grown (grown_new g9 rfl) (by have := HL8.out; have := HW.out; omega) (by have := HL8.out; have := HW.out; omega) (fun h0 e => by have := OLG.out h0 _ e; have := HL8.out; have := HW.out; omega)
            have Q9 : Hid (Blk H 24 (polL QL HV) w9) := Q8.out.grown (grown_new g9 rfl) (fun e => by injection e with e; have := HL8.out; omega)
            have X9 : Hid (Blk w8.heap.size 24 (polL SL SW) w9) := blk_put FF.out.2 nb9
            clear nb9 g9 NZ T8 Q8
            go_wp2_with (first
            | (refine step_load rfl 24 _ rfl w8.heap.size 0 rfl (polL SL SW) _ (Blk.all X9.out) Try.underlying24 rfl SZ1.out.1 ?_))
            refine (CS.out _ T9.out).mono ?_
            rintro e w10 ⟨rfl, b10⟩
            have T10 : Hid (MN w l (.slice ao hs.length cp) ml R v G w10) := T9.out.later b10
            have Q10 : Hid (Blk H 24 (polL QL HV) w10) := Q9.out.below b10
            clear b10 T9 Q9 X9 CS
            go_wp2_with (first
              | (refine step_load rfl 24 _ rfl G 0 rfl (polL ml v) _ (Blk.all T10.out.m.q) Try.underlying24 rfl (SZ.out _) ?_)
              | (refine step_load rfl 24 _ rfl w.heap.size 0 rfl (polL l (.slice ao hs.length cp)) _ (Blk.all T10.out.p) Try.underlying24 rfl (SZ0.out _) ?_)
              | (refine step_load rfl 24 _ rfl H 0 rfl (polL QL HV) _ (Blk.all Q10.out) Try.underlying24 rfl SQ.out ?_))
            refine (M2.out _).mono ?_
            rintro e w11 ⟨rfl, b11⟩
            have T11 : Hid (MN w l (.slice ao hs.length cp) ml R v G w11) := T10.out.later b11
            have Q11 : Hid (Blk H 24 (polL QL HV) w11) := Q10.out.below b11
            have F2 : Hid (0 + (polL QN HN).length ≤ (polL QL HV).length ∧ (polL QL HV).length ≤ 0 + (polL QN HN).length) := by show _ ∧ _; rw [SZ2.out.2, LQ18.out]; exact ⟨Nat.le_refl 18, Nat.le_refl 18⟩
            clear b11 T10 Q10 M2
            go_wp2_with (first
            | ((with_reducible refine at_store ?_); refine step_store rfl 24 _ _ rfl H 0 24 (polL QL HV) (polL QN HN) rfl rfl Q11.out F2.out.1 SZ2.out.1 OS2.out ?_; intro w12 nb12 g12))
            have T12 : Hid (MN w l (.slice ao hs.length cp) ml R v G w12) := T11.out.grown g12 HW.out.1 (by have := HW.out; omega) (fun h0 e => by have := OLG.out h0 _ e; have := HW.out; omega)
            have Q12 : Hid (Blk H 24 (polL QN HN) w12) := blk_put F2.out.2 nb12
            clear nb12 g12
            go_roundw
            case rel => exact ⟨k2 + 1, n + 1, by go_num, by go_num, by omega, by omega, by omega, T12.out, by show Blk _ _ _ _; rw [HQN.out, HHN.out]; exact Q12.out⟩
            case measure => simp [intOf]; omega
        · obtain rfl : last = 18 := by omega
          have h0 : chk (mixL ml l 18) (if (18 : Nat) = 18 then R else hs) = 0 := by
            rcases MD2.out 18 (Nat.le_refl _) with h | ⟨n, hn, hln, _⟩
            · exact h
            · omega
          have CZ : Hid (∀ w', MN w l (.slice ao hs.length cp) ml R v G w' → Calls Try.prog 10 #[PV (mixL ml l 18) (if (18 : Nat) = 18 then v else (.slice ao hs.length cp))] w' fun e w'' => e = .returned (.tuple #[.int .i64 0, .int .i64 0]) ∧ Below w'.heap.size w' w'') := ZQ.out h0
          clear ZQ CQ RQ YL h0
          generalize mixL ml l 18 = QL at *
          generalize (if (18 : Nat) = 18 then v else (.slice ao hs.length cp)) = HV at *
          go_wp2_with (first
            | (refine step_load rfl 24 _ rfl H 0 rfl (polL QL HV) _ (Blk.all Q6.out) Try.underlying24 rfl SQ.out ?_))
          refine (CZ.out _ T6.out).mono ?_
          rintro e w7 ⟨rfl, b7⟩
          have T7 : Hid (MN w l (.slice ao hs.length cp) ml R v G w7) := T6.out.later b7
          clear b7
          go_wp2_with fail
          go_ret
          exact ⟨rfl, T7.out.m.bb⟩
end Go.Proofs.Ytcjmjbhbdojeiaa
