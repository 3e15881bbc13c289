/-
  Ours: report.tellLetter, Letter, ReadLetter.
-/
import Derived.Test.YtpkgdkgbbbbaoaaDoorRpGue
namespace Go.Proofs.YtpkgdkgbbbbaoaaDoor
open Go.RowKit Go.Lib CalM RpM

theorem itoa_pos (n : Int) (h0 : 0 ≤ n) (h1 : n ≤ 9223372036854775807) (w : World) (ht : TabW w) : Calls Tryd.prog 14 #[.int .i64 n] w fun e w' => e = .returned (.string ⟨(decDigits n.toNat).toArray⟩) ∧ Below w.heap.size w w' := by
  refine (Tryd.strconv_Itoa n (by omega) h1 w ht).mono ?_
  rintro e w' ⟨rfl, j, os, rfl⟩
  refine ⟨?_, Lib.below_grow _ w (Nat.le_refl _) j os⟩
  unfold itoa
  rw [if_neg (by omega)]
theorem format_pos (x : Int) (h0 : 0 ≤ x) (h1 : x ≤ 9223372036854775807) (w : World) (ht : TabW w) : Calls Tryd.prog 22 #[.int .i64 x] w fun e w' => e = .returned (.string ⟨(amtL x.natAbs).toArray⟩) ∧ Below w.heap.size w w' := by
  have := format_at x (by omega) h1 w ht
  rw [fmt_amt h0] at this
  exact this
theorem held7 {W w1 w2 : World} {p0 p1 p2 p3 p4 p5 p6 : Addr} {v0 v1 v2 v3 v4 v5 v6 : Value} (b : Below w1.heap.size w1 w2)
    (h : Below W.heap.size W w1 ∧ w1.cell? p0 = some v0 ∧ w1.cell? p1 = some v1 ∧ w1.cell? p2 = some v2 ∧ w1.cell? p3 = some v3 ∧ w1.cell? p4 = some v4 ∧ w1.cell? p5 = some v5 ∧ w1.cell? p6 = some v6) :
    Below W.heap.size W w2 ∧ w2.cell? p0 = some v0 ∧ w2.cell? p1 = some v1 ∧ w2.cell? p2 = some v2 ∧ w2.cell? p3 = some v3 ∧ w2.cell? p4 = some v4 ∧ w2.cell? p5 = some v5 ∧ w2.cell? p6 = some v6 := by
  obtain ⟨hb, h0, h1, h2, h3, h4, h5, h6⟩ := h
  have k : ∀ {p : Addr} {v : Value}, w1.cell? p = some v → w2.cell? p = some v := fun hc => (b.cell (World.block_lt_of_cell? _ _ hc)).trans hc
  exact ⟨below_trans hb b, k h0, k h1, k h2, k h3, k h4, k h5, k h6⟩
set_option maxRecDepth 100000 in
set_option maxHeartbeats 2000000 in
theorem tellLetter_at (k : Nat) (hk : k < 10) (n : RpM.Nt) (hm : may n) (on : n.Ok) (hkn : n.kind = (k : Int)) (D : List UInt8) (hD : D.length = 10) (w : World) (hw : RpW w) :
    Calls Tryd.prog 11 #[ntV n, .string ⟨D.toArray⟩] w fun e w' => e = .returned (.string ⟨(letT k (decDigits n.id.toNat) D (decDigits n.loan.toNat) (amtL n.amt.natAbs)).toArray⟩) ∧ Below w.heap.size w w' := by
  obtain ⟨h1, h2, h3, h4, h5, h6, h7⟩ := hm
  obtain ⟨⟨_, o1⟩, ⟨_, o2⟩, _, _, ⟨_, o5⟩⟩ := on
  obtain ⟨id, loan, kind, day, amt, ack⟩ := n
  simp only at *
  subst hkn
  have IL : Hid (∀ w', RpW w' → Calls Tryd.prog 14 #[.int .i64 loan] w' fun e w'' => e = .returned (.string ⟨(decDigits loan.toNat).toArray⟩) ∧ Below w'.heap.size w' w'') := fun w' hw => itoa_pos loan (by omega) o2 w' hw.tab
  have II : Hid (∀ w', RpW w' → Calls Tryd.prog 14 #[.int .i64 id] w' fun e w'' => e = .returned (.string ⟨(decDigits id.toNat).toArray⟩) ∧ Below w'.heap.size w' w'') := fun w' hw => itoa_pos id (by omega) o1 w' hw.tab
  have FA : Hid (∀ w', RpW w' → Calls Tryd.prog 22 #[.int .i64 amt] w' fun e w'' => e = .returned (.string ⟨(amtL amt.natAbs).toArray⟩) ∧ Below w'.heap.size w' w'') := fun w' hw => format_pos amt h7 o5 w' hw.tab
  have l1 := dec_len id.toNat (by omega)
  have l2 := dec_len loan.toNat (by omega)
  have l3 := amt_len amt.natAbs (by omega)
  have FI : Hid (∀ w', Calls Tryd.prog 21 #[wdV k, .string ⟨(decDigits loan.toNat).toArray⟩, .string ⟨(amtL amt.natAbs).toArray⟩] w' fun e w'' => e = .returned (.string ⟨(lay k (decDigits loan.toNat) (amtL amt.natAbs)).toArray⟩) ∧ Below w'.heap.size w' w'') := fun w' => fill_at k _ _ (by omega) (by omega) w'
  have l4 : (lay k (decDigits loan.toNat) (amtL amt.natAbs)).length ≤ 400 := by
    have := wrd_len k
    unfold lay
    cases (wrd k).f <;> simp <;> omega
  have HL : Hid (letT k (decDigits id.toNat) D (decDigits loan.toNat) (amtL amt.natAbs) = notB ++ decDigits id.toNat ++ ofB ++ D ++ colB ++ lay k (decDigits loan.toNat) (amtL amt.natAbs)) := rfl
  generalize letT k (decDigits id.toNat) D (decDigits loan.toNat) (amtL amt.natAbs) = LT at *
  generalize lay k (decDigits loan.toNat) (amtL amt.natAbs) = LY at *
  generalize decDigits loan.toNat = DL at *
  generalize decDigits id.toNat = DI at *
  generalize amtL amt.natAbs = DA at *
  have HW : Hid (RpW w) := hw
  have c0 := (hw.later (below_alloc w (.cells (ntC ⟨id, loan, (k : Int), day, amt, ack⟩) 23))).wds.a k hk
  have c1 := (hw.later (below_alloc w (.cells (ntC ⟨id, loan, (k : Int), day, amt, ack⟩) 23))).wds.b k hk
  have c2 := (hw.later (below_alloc w (.cells (ntC ⟨id, loan, (k : Int), day, amt, ack⟩) 23))).wds.c k hk
  have c3 := (hw.later (below_alloc w (.cells (ntC ⟨id, loan, (k : Int), day, amt, ack⟩) 23))).wds.f k hk
  have NB : Blk w.heap.size 23 (ntC ⟨id, loan, (k : Int), day, amt, ack⟩).toList (w.alloc (.cells (ntC ⟨id, loan, (k : Int), day, amt, ack⟩) 23)) := Blk.new _ _ _
  have n1 := NB.cell 1 _ rfl
  have n2 := NB.cell 2 _ rfl
  have n4 := NB.cell 4 _ rfl
  have HB : Hid (∀ w', Below (w.alloc (.cells (ntC ⟨id, loan, (k : Int), day, amt, ack⟩) 23)).heap.size (w.alloc (.cells (ntC ⟨id, loan, (k : Int), day, amt, ack⟩) 23)) w' → Below w.heap.size w w' ∧ RpW w' ∧ w'.cell? ⟨w.heap.size, 0, none⟩ = some (.int .i64 id)) := fun w' b => ⟨below_trans (below_alloc _ _) b, HW.out.later (below_trans (below_alloc _ _) b), (NB.below b).cell 0 _ rfl⟩
  have S0 : Hid (Below (w.alloc (.cells (ntC ⟨id, loan, (k : Int), day, amt, ack⟩) 23)).heap.size (w.alloc (.cells (ntC ⟨id, loan, (k : Int), day, amt, ack⟩) 23)) (w.alloc (.cells (ntC ⟨id, loan, (k : Int), day, amt, ack⟩) 23)) ∧ True) := ⟨Below.refl _ _, trivial⟩
  clear hw h1 h2 h3 h4 h5 h6 h7 o1 o2 o5
  have k0 : (0 : Int) ≤ (k : Int) := by omega
  have k1 : (k : Int) < 10 := by omega
  have k2 : decide ((k : Int) < 10) = true := decide_eq_true k1
  have k3 : ¬ (k : Int) < 0 := by omega
  have hkn : ((k : Int)).toNat = k := by omega
  go_enter Tryd.func11, Tryd.ntmps11
  go_upto_region 1 with fail
  generalize w.alloc (.cells #[.int .i64 id, .int .i64 loan, .int .i64 (k : Int), .int .i64 day, .int .i64 amt, .bool ack] 23) = W at *
  clear NB
  go_region_held3 (fun w' => Below W.heap.size W w' ∧ w'.cell? ⟨w.heap.size, 1, none⟩ = some (.int .i64 loan) ∧ w'.cell? ⟨w.heap.size, 2, none⟩ = some (.int .i64 (k : Int)) ∧ w'.cell? ⟨w.heap.size, 4, none⟩ = some (.int .i64 amt) ∧ w'.cell? ⟨0, k * 4, none⟩ = some (.string ⟨(wrd k).a.toArray⟩) ∧ w'.cell? ⟨0, k * 4 + 1, none⟩ = some (.string ⟨(wrd k).b.toArray⟩) ∧ w'.cell? ⟨0, k * 4 + 2, none⟩ = some (.string ⟨(wrd k).c.toArray⟩) ∧ w'.cell? ⟨0, k * 4 + 3, none⟩ = some (.bool (wrd k).f)) (first | assumption | exact ⟨Below.drew S0.out.1, n1, n2, n4, c0, c1, c2, c3⟩ | exact held7 hU (by assumption)) (first | (go_at_call 14; refine (IL.out _ (HB.out _ (And.left (by assumption))).2.1).mono ?_; rintro e w1 ⟨rfl, hU⟩) | (go_at_call 22; refine (FA.out _ (HB.out _ (And.left (by assumption))).2.1).mono ?_; rintro e w1 ⟨rfl, hU⟩) | (go_at_call 21; refine (FI.out _).mono ?_; rintro e w1 ⟨rfl, hU⟩))
  rename_i hH
  have S1 : Hid (Below w.heap.size w w1 ∧ RpW w1) := ⟨(HB.out _ hH.1).1, (HB.out _ hH.1).2.1⟩
  have n0 := (HB.out _ hH.1).2.2
  clear hH hU n1 n2 n4 c0 c1 c2 c3 S0 HB
  go_wp2_with fail
  refine (II.out _ S1.out.2).mono ?_
  rintro e w2 ⟨rfl, b2⟩
  have S2 : Hid (Below w.heap.size w w2) := below_trans S1.out.1 b2
  clear b2 S1 n0
  go_wp2_with fail
  go_ret
  exact ⟨ret_s (by rw [HL.out]; apply ByteArray.ext; simp [notB, ofB, colB]), S2.out⟩
theorem fdateL_at (d : Int) (h1 : 1 ≤ d) (h2 : d ≤ 3652059) (w : World) (hw : RpW w) : Calls Tryd.prog 9 #[.int .i64 d] w fun e w' => e = .returned (.tuple #[.string ⟨(dateL d).toArray⟩, .bool true]) ∧ Below w.heap.size w w' := by
  obtain ⟨y, m, k, ok, e1, e⟩ := dateL_is h1 h2
  rw [e]
  exact fdate_at y m k d ok e1 w hw.ahead hw.tab
/-- What Letter answers. -/
noncomputable def letA (n : RpM.Nt) : Value := if may n then .tuple #[.string ⟨(letN n).toArray⟩, .bool true] else .tuple #[.string ⟨#[]⟩, .bool false]
set_option maxRecDepth 100000 in
set_option maxHeartbeats 2000000 in
theorem letter_at (n : RpM.Nt) (on : n.Ok) (w : World) (hw : RpW w) : Calls Tryd.prog 5 #[ntV n] w fun e w' => e = .returned (letA n) ∧ Below w.heap.size w w' := by
  have TL : may n → Hid (∀ w', RpW w' → Calls Tryd.prog 11 #[ntV n, .string ⟨(dateL n.day).toArray⟩] w' fun e w'' => e = .returned (.string ⟨(letN n).toArray⟩) ∧ Below w'.heap.size w' w'') := fun hm w' hw' => by
    have hm2 := hm
    obtain ⟨h1, h2, h3, h4, h5, h6, h7⟩ := hm2
    exact tellLetter_at n.kind.toNat (by omega) n hm on (by omega) (dateL n.day) (dateL_len h5 h6) w' hw'
  have IK : Hid (∀ w, Calls Tryd.prog 10 #[.int .i64 n.kind] w fun e w' => e = .returned (.bool (decide (1 ≤ n.kind ∧ n.kind ≤ 9))) ∧ w = w') := fun w => isKind_at n.kind w
  have NO : ¬ may n → letA n = .tuple #[.string ⟨#[]⟩, .bool false] := fun h => if_neg h
  have YES : may n → letA n = .tuple #[.string ⟨(letN n).toArray⟩, .bool true] := fun h => if_pos h
  have FN : ¬ (1 ≤ n.day ∧ n.day ≤ 3652059) → Hid (∀ w, Calls Tryd.prog 9 #[.int .i64 n.day] w fun e w' => e = .returned (.tuple #[.string ⟨#[]⟩, .bool false]) ∧ Below w.heap.size w w') := fun h w => fdate_no n.day h w
  have FY : (1 ≤ n.day ∧ n.day ≤ 3652059) → Hid (∀ w, RpW w → Calls Tryd.prog 9 #[.int .i64 n.day] w fun e w' => e = .returned (.tuple #[.string ⟨(dateL n.day).toArray⟩, .bool true]) ∧ Below w.heap.size w w') := fun h w hw => fdateL_at n.day h.1 h.2 w hw
  generalize letA n = AN at *
  generalize letN n = LN at *
  have HW : Hid (RpW w) := hw
  have NB : Hid (Blk w.heap.size 23 (ntC n).toList (w.alloc (.cells (ntC n) 23))) := Blk.new _ _ _
  have AB : Hid (Below w.heap.size w (w.alloc (.cells (ntC n) 23))) := below_alloc _ _
  have Hm : may n ↔ (1 ≤ n.id ∧ 1 ≤ n.loan ∧ 1 ≤ n.kind ∧ n.kind ≤ 9 ∧ 1 ≤ n.day ∧ n.day ≤ 3652059 ∧ 0 ≤ n.amt) := Iff.rfl
  generalize may n = MAY at *
  obtain ⟨id, loan, kind, day, amt, ack⟩ := n
  simp only at *
  clear hw on
  by_cases hd : 1 ≤ day ∧ day ≤ 3652059
  · have FD := FY hd
    clear FN FY
    by_cases hi : id < 1
    · have EQ : Hid (AN = _) := NO (fun h => by have := Hm.1 h; omega)
      clear NO YES TL Hm hd
      go_enter Tryd.func5, Tryd.ntmps5
      go_upto_region 1 with fail
      generalize w.alloc (.cells #[.int .i64 id, .int .i64 loan, .int .i64 kind, .int .i64 day, .int .i64 amt, .bool ack] 23) = W at *
      have n0 := NB.out.cell 3 _ rfl
      go_wp2_with fail
      refine (FD.out _ (HW.out.later AB.out)).mono ?_
      rintro e w2 ⟨rfl, b2⟩
      have S2 : Hid (Below w.heap.size w w2 ∧ RpW w2 ∧ Blk w.heap.size 23 (ntC ⟨id, loan, kind, day, amt, ack⟩).toList w2) := ⟨below_trans AB.out b2, HW.out.later (below_trans AB.out b2), NB.out.below b2⟩
      have m0 := S2.out.2.2.cell 0 _ rfl
      have m1 := S2.out.2.2.cell 1 _ rfl
      have m2 := S2.out.2.2.cell 2 _ rfl
      have m4 := S2.out.2.2.cell 4 _ rfl
      clear n0 b2
      go_wp2_with fail
      go_ret2
      exact ⟨congrArg _ EQ.out.symm, S2.out.1⟩
    · by_cases hl : loan < 1
      · have EQ : Hid (AN = _) := NO (fun h => by have := Hm.1 h; omega)
        clear NO YES TL Hm hd
        go_enter Tryd.func5, Tryd.ntmps5
        go_upto_region 1 with fail
        generalize w.alloc (.cells #[.int .i64 id, .int .i64 loan, .int .i64 kind, .int .i64 day, .int .i64 amt, .bool ack] 23) = W at *
        have n0 := NB.out.cell 3 _ rfl
        go_wp2_with fail
        refine (FD.out _ (HW.out.later AB.out)).mono ?_
        rintro e w2 ⟨rfl, b2⟩
        have S2 : Hid (Below w.heap.size w w2 ∧ RpW w2 ∧ Blk w.heap.size 23 (ntC ⟨id, loan, kind, day, amt, ack⟩).toList w2) := ⟨below_trans AB.out b2, HW.out.later (below_trans AB.out b2), NB.out.below b2⟩
        have m0 := S2.out.2.2.cell 0 _ rfl
        have m1 := S2.out.2.2.cell 1 _ rfl
        have m2 := S2.out.2.2.cell 2 _ rfl
        have m4 := S2.out.2.2.cell 4 _ rfl
        clear n0 b2
        go_wp2_with fail
        go_ret2
        exact ⟨congrArg _ EQ.out.symm, S2.out.1⟩
      · by_cases ha : amt < 0
        · have EQ : Hid (AN = _) := NO (fun h => by have := Hm.1 h; omega)
          clear NO YES TL Hm hd
          go_enter Tryd.func5, Tryd.ntmps5
          go_upto_region 1 with fail
          generalize w.alloc (.cells #[.int .i64 id, .int .i64 loan, .int .i64 kind, .int .i64 day, .int .i64 amt, .bool ack] 23) = W at *
          have n0 := NB.out.cell 3 _ rfl
          go_wp2_with fail
          refine (FD.out _ (HW.out.later AB.out)).mono ?_
          rintro e w2 ⟨rfl, b2⟩
          have S2 : Hid (Below w.heap.size w w2 ∧ RpW w2 ∧ Blk w.heap.size 23 (ntC ⟨id, loan, kind, day, amt, ack⟩).toList w2) := ⟨below_trans AB.out b2, HW.out.later (below_trans AB.out b2), NB.out.below b2⟩
          have m0 := S2.out.2.2.cell 0 _ rfl
          have m1 := S2.out.2.2.cell 1 _ rfl
          have m2 := S2.out.2.2.cell 2 _ rfl
          have m4 := S2.out.2.2.cell 4 _ rfl
          clear n0 b2
          go_wp2_with fail
          go_ret2
          exact ⟨congrArg _ EQ.out.symm, S2.out.1⟩
        · by_cases hk : 1 ≤ kind ∧ kind ≤ 9
          · have hm : MAY := Hm.2 (by omega)
            have EQ : Hid (AN = _) := YES hm
            have TE := TL hm
            rw [decide_eq_true hk] at IK
            clear NO YES TL Hm hd hk hm
            go_enter Tryd.func5, Tryd.ntmps5
            go_upto_region 1 with fail
            generalize w.alloc (.cells #[.int .i64 id, .int .i64 loan, .int .i64 kind, .int .i64 day, .int .i64 amt, .bool ack] 23) = W at *
            have n0 := NB.out.cell 3 _ rfl
            go_wp2_with fail
            refine (FD.out _ (HW.out.later AB.out)).mono ?_
            rintro e w2 ⟨rfl, b2⟩
            have S2 : Hid (Below w.heap.size w w2 ∧ RpW w2 ∧ Blk w.heap.size 23 (ntC ⟨id, loan, kind, day, amt, ack⟩).toList w2) := ⟨below_trans AB.out b2, HW.out.later (below_trans AB.out b2), NB.out.below b2⟩
            have m0 := S2.out.2.2.cell 0 _ rfl
            have m1 := S2.out.2.2.cell 1 _ rfl
            have m2 := S2.out.2.2.cell 2 _ rfl
            have m4 := S2.out.2.2.cell 4 _ rfl
            clear n0 b2
            have m3 := S2.out.2.2.cell 3 _ rfl
            have m5 := S2.out.2.2.cell 5 _ rfl
            go_wp2_with (go_at_call 10; refine (IK.out _).mono ?_; rintro e w3 ⟨rfl, rfl⟩)
            refine (TE.out _ S2.out.2.1).mono ?_
            rintro e w4 ⟨rfl, b4⟩
            have S4 : Hid (Below w.heap.size w w4) := below_trans S2.out.1 b4
            clear b4 m0 m1 m2 m3 m4 m5 S2
            go_wp2_with fail
            go_ret2
            exact ⟨congrArg _ EQ.out.symm, S4.out⟩
          · have EQ : Hid (AN = _) := NO (fun h => by have := Hm.1 h; omega)
            rw [decide_eq_false hk] at IK
            clear NO YES TL Hm hd hk
            go_enter Tryd.func5, Tryd.ntmps5
            go_upto_region 1 with fail
            generalize w.alloc (.cells #[.int .i64 id, .int .i64 loan, .int .i64 kind, .int .i64 day, .int .i64 amt, .bool ack] 23) = W at *
            have n0 := NB.out.cell 3 _ rfl
            go_wp2_with fail
            refine (FD.out _ (HW.out.later AB.out)).mono ?_
            rintro e w2 ⟨rfl, b2⟩
            have S2 : Hid (Below w.heap.size w w2 ∧ RpW w2 ∧ Blk w.heap.size 23 (ntC ⟨id, loan, kind, day, amt, ack⟩).toList w2) := ⟨below_trans AB.out b2, HW.out.later (below_trans AB.out b2), NB.out.below b2⟩
            have m0 := S2.out.2.2.cell 0 _ rfl
            have m1 := S2.out.2.2.cell 1 _ rfl
            have m2 := S2.out.2.2.cell 2 _ rfl
            have m4 := S2.out.2.2.cell 4 _ rfl
            clear n0 b2
            go_wp2_with (go_at_call 10; refine (IK.out _).mono ?_; rintro e w3 ⟨rfl, rfl⟩)
            go_ret2
            exact ⟨congrArg _ EQ.out.symm, S2.out.1⟩
  · have FD := FN hd
    have EQ : Hid (AN = _) := NO (fun h => by have := Hm.1 h; omega)
    clear FN FY NO YES TL Hm hd
    go_enter Tryd.func5, Tryd.ntmps5
    go_upto_region 1 with fail
    generalize w.alloc (.cells #[.int .i64 id, .int .i64 loan, .int .i64 kind, .int .i64 day, .int .i64 amt, .bool ack] 23) = W at *
    have n0 := NB.out.cell 3 _ rfl
    go_wp2_with fail
    refine (FD.out _).mono ?_
    rintro e w2 ⟨rfl, b2⟩
    have S2 : Hid (Below w.heap.size w w2 ∧ RpW w2 ∧ Blk w.heap.size 23 (ntC ⟨id, loan, kind, day, amt, ack⟩).toList w2) := ⟨below_trans AB.out b2, HW.out.later (below_trans AB.out b2), NB.out.below b2⟩
    have m0 := S2.out.2.2.cell 0 _ rfl
    have m1 := S2.out.2.2.cell 1 _ rfl
    have m2 := S2.out.2.2.cell 2 _ rfl
    have m4 := S2.out.2.2.cell 4 _ rfl
    clear n0 b2
    go_wp2_with fail
    go_ret2
    exact ⟨congrArg _ EQ.out.symm, S2.out.1⟩
end Go.Proofs.YtpkgdkgbbbbaoaaDoor
