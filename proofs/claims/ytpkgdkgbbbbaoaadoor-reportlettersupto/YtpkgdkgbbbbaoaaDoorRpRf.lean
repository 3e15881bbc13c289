/-
  Ours: the reference's sentence, Letter, tried, digit. (gen_rprf.py)
-/
import Derived.Test.YtpkgdkgbbbbaoaaDoorRpRd
import Derived.Test.YtpkgdkgbbbbaoaaDoorRpRun
import Derived.Test.YtpkgdkgbbbbaoaaDoorCalTxt3
namespace Go.Proofs.YtpkgdkgbbbbaoaaDoor
open Go.RowKit Go.Lib CalM RpM
set_option maxRecDepth 100000 in
set_option maxHeartbeats 2000000 in
theorem sentence_at (k : Nat) (h1 : 1 ≤ k) (h9 : k ≤ 9) (X Y : List UInt8) (hX : X.length ≤ 100) (hY : Y.length ≤ 100) (w : World) : Calls Tryd.prog 15 #[.int .i64 (k : Int), .string ⟨X.toArray⟩, .string ⟨Y.toArray⟩] w fun e w' => e = .returned (.string ⟨(lay k X Y).toArray⟩) ∧ Below w.heap.size w w' := by
  have hk : k = 1 ∨ k = 2 ∨ k = 3 ∨ k = 4 ∨ k = 5 ∨ k = 6 ∨ k = 7 ∨ k = 8 ∨ k = 9 := by omega
  rcases hk with rfl | rfl | rfl | rfl | rfl | rfl | rfl | rfl | rfl
  · have LY : Hid ((⟨(lay 1 X Y).toArray⟩ : ByteArray) = ⟨(lay 1 X Y).toArray⟩) := rfl
    generalize hL : (⟨(lay 1 X Y).toArray⟩ : ByteArray) = L at LY ⊢
    have HL : Hid ((⟨(lay 1 X Y).toArray⟩ : ByteArray) = L) := hL
    clear hL LY h1 h9
    go_enter Tryd.func15, Tryd.ntmps15
    go_wp2_with fail
    go_ret
    exact ⟨ret_s (by rw [← HL.out]; apply ByteArray.ext; simp [lay, wrd]), Below.refl _ _⟩
  · have LY : Hid ((⟨(lay 2 X Y).toArray⟩ : ByteArray) = ⟨(lay 2 X Y).toArray⟩) := rfl
    generalize hL : (⟨(lay 2 X Y).toArray⟩ : ByteArray) = L at LY ⊢
    have HL : Hid ((⟨(lay 2 X Y).toArray⟩ : ByteArray) = L) := hL
    clear hL LY h1 h9
    go_enter Tryd.func15, Tryd.ntmps15
    go_wp2_with fail
    go_ret
    exact ⟨ret_s (by rw [← HL.out]; apply ByteArray.ext; simp [lay, wrd]), Below.refl _ _⟩
  · have LY : Hid ((⟨(lay 3 X Y).toArray⟩ : ByteArray) = ⟨(lay 3 X Y).toArray⟩) := rfl
    generalize hL : (⟨(lay 3 X Y).toArray⟩ : ByteArray) = L at LY ⊢
    have HL : Hid ((⟨(lay 3 X Y).toArray⟩ : ByteArray) = L) := hL
    clear hL LY h1 h9
    go_enter Tryd.func15, Tryd.ntmps15
    go_wp2_with fail
    go_ret
    exact ⟨ret_s (by rw [← HL.out]; apply ByteArray.ext; simp [lay, wrd]), Below.refl _ _⟩
  · have LY : Hid ((⟨(lay 4 X Y).toArray⟩ : ByteArray) = ⟨(lay 4 X Y).toArray⟩) := rfl
    generalize hL : (⟨(lay 4 X Y).toArray⟩ : ByteArray) = L at LY ⊢
    have HL : Hid ((⟨(lay 4 X Y).toArray⟩ : ByteArray) = L) := hL
    clear hL LY h1 h9
    go_enter Tryd.func15, Tryd.ntmps15
    go_wp2_with fail
    go_ret
    exact ⟨ret_s (by rw [← HL.out]; apply ByteArray.ext; simp [lay, wrd]), Below.refl _ _⟩
  · have LY : Hid ((⟨(lay 5 X Y).toArray⟩ : ByteArray) = ⟨(lay 5 X Y).toArray⟩) := rfl
    generalize hL : (⟨(lay 5 X Y).toArray⟩ : ByteArray) = L at LY ⊢
    have HL : Hid ((⟨(lay 5 X Y).toArray⟩ : ByteArray) = L) := hL
    clear hL LY h1 h9
    go_enter Tryd.func15, Tryd.ntmps15
    go_wp2_with fail
    go_ret
    exact ⟨ret_s (by rw [← HL.out]; apply ByteArray.ext; simp [lay, wrd]), Below.refl _ _⟩
  · have LY : Hid ((⟨(lay 6 X Y).toArray⟩ : ByteArray) = ⟨(lay 6 X Y).toArray⟩) := rfl
    generalize hL : (⟨(lay 6 X Y).toArray⟩ : ByteArray) = L at LY ⊢
    have HL : Hid ((⟨(lay 6 X Y).toArray⟩ : ByteArray) = L) := hL
    clear hL LY h1 h9
    go_enter Tryd.func15, Tryd.ntmps15
    go_wp2_with fail
    go_ret
    exact ⟨ret_s (by rw [← HL.out]; apply ByteArray.ext; simp [lay, wrd]), Below.refl _ _⟩
  · have LY : Hid ((⟨(lay 7 X Y).toArray⟩ : ByteArray) = ⟨(lay 7 X Y).toArray⟩) := rfl
    generalize hL : (⟨(lay 7 X Y).toArray⟩ : ByteArray) = L at LY ⊢
    have HL : Hid ((⟨(lay 7 X Y).toArray⟩ : ByteArray) = L) := hL
    clear hL LY h1 h9
    go_enter Tryd.func15, Tryd.ntmps15
    go_wp2_with fail
    go_ret
    exact ⟨ret_s (by rw [← HL.out]; apply ByteArray.ext; simp [lay, wrd]), Below.refl _ _⟩
  · have LY : Hid ((⟨(lay 8 X Y).toArray⟩ : ByteArray) = ⟨(lay 8 X Y).toArray⟩) := rfl
    generalize hL : (⟨(lay 8 X Y).toArray⟩ : ByteArray) = L at LY ⊢
    have HL : Hid ((⟨(lay 8 X Y).toArray⟩ : ByteArray) = L) := hL
    clear hL LY h1 h9
    go_enter Tryd.func15, Tryd.ntmps15
    go_wp2_with fail
    go_ret
    exact ⟨ret_s (by rw [← HL.out]; apply ByteArray.ext; simp [lay, wrd]), Below.refl _ _⟩
  · have LY : Hid ((⟨(lay 9 X Y).toArray⟩ : ByteArray) = ⟨(lay 9 X Y).toArray⟩) := rfl
    generalize hL : (⟨(lay 9 X Y).toArray⟩ : ByteArray) = L at LY ⊢
    have HL : Hid ((⟨(lay 9 X Y).toArray⟩ : ByteArray) = L) := hL
    clear hL LY h1 h9
    go_enter Tryd.func15, Tryd.ntmps15
    go_wp2_with fail
    go_ret
    exact ⟨ret_s (by rw [← HL.out]; apply ByteArray.ext; simp [lay, wrd]), Below.refl _ _⟩
theorem rfdate_at (d : Int) (h1 : 1 ≤ d) (h2 : d ≤ 3652059) (w : World) (hw : TabW w) : Calls Tryd.prog 13 #[.int .i64 d] w fun e w' => e = .returned (.tuple #[.string ⟨(dateL d).toArray⟩, .bool true]) ∧ Below w.heap.size w w' := by
  obtain ⟨y, m, k, ok, e1, e⟩ := dateL_is h1 h2
  rw [e]
  exact refFormat_at y m k d ok e1 w hw
theorem rformat_pos (x : Int) (h0 : 0 ≤ x) (h1 : x ≤ 9223372036854775807) (w : World) (ht : TabW w) : Calls Tryd.prog 16 #[.int .i64 x] w fun e w' => e = .returned (.string ⟨(amtL x.natAbs).toArray⟩) ∧ Below w.heap.size w w' := by
  have := rformat_at x (by omega) h1 w ht
  rw [fmt_amt h0] at this
  exact this
theorem held3n {W w1 w2 : World} {p0 p1 p2 : Addr} {v0 v1 v2 : Value} (b : Below w1.heap.size w1 w2)
    (h : Below W.heap.size W w1 ∧ w1.cell? p0 = some v0 ∧ w1.cell? p1 = some v1 ∧ w1.cell? p2 = some v2) :
    Below W.heap.size W w2 ∧ w2.cell? p0 = some v0 ∧ w2.cell? p1 = some v1 ∧ w2.cell? p2 = some v2 := by
  obtain ⟨hb, h0, h1, h2⟩ := h
  have k : ∀ {p : Addr} {v : Value}, w1.cell? p = some v → w2.cell? p = some v := fun hc => (b.cell (World.block_lt_of_cell? _ _ hc)).trans hc
  exact ⟨below_trans hb b, k h0, k h1, k h2⟩
set_option maxRecDepth 100000 in
set_option maxHeartbeats 4000000 in
theorem rletter_at (n : RpM.Nt) (on : n.Ok) (w : World) (hw : TabW w) : Calls Tryd.prog 7 #[ntV n] w fun e w' => e = .returned (letA n) ∧ Below w.heap.size w w' := by
  have NO : ¬ may n → letA n = .tuple #[.string ⟨#[]⟩, .bool false] := fun h => if_neg h
  have YES : may n → letA n = .tuple #[.string ⟨(letN n).toArray⟩, .bool true] := fun h => if_pos h
  have LD : may n → Hid (letN n = notB ++ decDigits n.id.toNat ++ ofB ++ dateL n.day ++ colB ++ lay n.kind.toNat (decDigits n.loan.toNat) (amtL n.amt.natAbs)) := fun _ => rfl
  have FN : ¬ (1 ≤ n.day ∧ n.day ≤ 3652059) → Hid (∀ w, Calls Tryd.prog 13 #[.int .i64 n.day] w fun e w' => e = .returned (.tuple #[.string ⟨#[]⟩, .bool false]) ∧ Below w.heap.size w w') := fun h w => refFormat_no n.day h w
  have FY : (1 ≤ n.day ∧ n.day ≤ 3652059) → Hid (∀ w, TabW w → Calls Tryd.prog 13 #[.int .i64 n.day] w fun e w' => e = .returned (.tuple #[.string ⟨(dateL n.day).toArray⟩, .bool true]) ∧ Below w.heap.size w w') := fun h w hw => rfdate_at n.day h.1 h.2 w hw
  have DL : may n → (dateL n.day).length = 10 := fun h => by obtain ⟨_, _, _, _, h5, h6, _⟩ := h; exact dateL_len h5 h6
  have SE : may n → Hid (∀ w, Calls Tryd.prog 15 #[.int .i64 n.kind, .string ⟨(decDigits n.loan.toNat).toArray⟩, .string ⟨(amtL n.amt.natAbs).toArray⟩] w fun e w' => e = .returned (.string ⟨(lay n.kind.toNat (decDigits n.loan.toNat) (amtL n.amt.natAbs)).toArray⟩) ∧ Below w.heap.size w w') := fun hm w => by
    obtain ⟨h1, h2, h3, h4, h5, h6, h7⟩ := hm
    obtain ⟨⟨_, o1⟩, ⟨_, o2⟩, _, _, ⟨_, o5⟩⟩ := on
    have a := RpM.dec_len n.loan.toNat (by omega)
    have c := amt_len n.amt.natAbs (by omega)
    have := sentence_at n.kind.toNat (by omega) (by omega) (decDigits n.loan.toNat) (amtL n.amt.natAbs) (by omega) (by omega) w
    rw [show ((n.kind.toNat : Nat) : Int) = n.kind by omega] at this
    exact this
  have I1 : may n → Hid (∀ w, TabW w → Calls Tryd.prog 14 #[.int .i64 n.id] w fun e w' => e = .returned (.string ⟨(decDigits n.id.toNat).toArray⟩) ∧ Below w.heap.size w w') := fun hm w hw => by
    obtain ⟨h1, h2, h3, h4, h5, h6, h7⟩ := hm
    exact itoa_pos n.id (by omega) on.id.2 w hw
  have I2 : may n → Hid (∀ w, TabW w → Calls Tryd.prog 14 #[.int .i64 n.loan] w fun e w' => e = .returned (.string ⟨(decDigits n.loan.toNat).toArray⟩) ∧ Below w.heap.size w w') := fun hm w hw => by
    obtain ⟨h1, h2, h3, h4, h5, h6, h7⟩ := hm
    exact itoa_pos n.loan (by omega) on.loan.2 w hw
  have FA : may n → Hid (∀ w, TabW w → Calls Tryd.prog 16 #[.int .i64 n.amt] w fun e w' => e = .returned (.string ⟨(amtL n.amt.natAbs).toArray⟩) ∧ Below w.heap.size w w') := fun hm w hw => by
    obtain ⟨h1, h2, h3, h4, h5, h6, h7⟩ := hm
    exact rformat_pos n.amt h7 on.amt.2 w hw
  have LI : may n → (decDigits n.id.toNat).length ≤ 19 := fun hm => by
    have := on.id.2
    exact RpM.dec_len n.id.toNat (by omega)
  have LL : may n → (lay n.kind.toNat (decDigits n.loan.toNat) (amtL n.amt.natAbs)).length ≤ 400 := fun hm => by
    have a := RpM.dec_len n.loan.toNat (by have := on.loan.2; omega)
    have c := amt_len n.amt.natAbs (by have := on.amt.2; have := on.amt.1; omega)
    have := wrd_len n.kind.toNat
    unfold lay
    cases (wrd n.kind.toNat).f <;> simp <;> omega
  generalize letA n = AN at *
  generalize letN n = LN at *
  generalize lay n.kind.toNat (decDigits n.loan.toNat) (amtL n.amt.natAbs) = LY at *
  generalize decDigits n.id.toNat = DI at *
  generalize decDigits n.loan.toNat = DL' at *
  generalize amtL n.amt.natAbs = DA at *
  generalize dateL n.day = DD at *
  have HW : Hid (TabW w) := hw
  have NB : Hid (Blk w.heap.size 23 (ntC n).toList (w.alloc (.cells (ntC n) 23))) := Blk.new _ _ _
  have AB : Hid (Below w.heap.size w (w.alloc (.cells (ntC n) 23))) := below_alloc _ _
  have Hm : may n ↔ (1 ≤ n.id ∧ 1 ≤ n.loan ∧ 1 ≤ n.kind ∧ n.kind ≤ 9 ∧ 1 ≤ n.day ∧ n.day ≤ 3652059 ∧ 0 ≤ n.amt) := Iff.rfl
  generalize may n = MAY at *
  obtain ⟨id, loan, kind, day, amt, ack⟩ := n
  simp only at *
  clear hw on
  by_cases hd : 1 ≤ day ∧ day ≤ 3652059
  · have FD := FY hd
    by_cases hi : id < 1
    · skip
      have EQ : Hid (AN = _) := NO (fun h => by have := Hm.1 h; omega)
      clear NO YES LD FN FY SE I1 I2 FA LI LL DL Hm hd
      go_enter Tryd.func7, Tryd.ntmps7
      go_upto_region 1 with fail
      generalize w.alloc (.cells #[.int .i64 id, .int .i64 loan, .int .i64 kind, .int .i64 day, .int .i64 amt, .bool ack] 23) = W at *
      have n0 := NB.out.cell 3 _ rfl
      go_wp2_with fail
      refine (FD.out _ (tab_below HW.out AB.out)).mono ?_
      rintro e w2 ⟨rfl, b2⟩
      have S2 : Hid (Below w.heap.size w w2 ∧ TabW w2 ∧ Blk w.heap.size 23 (ntC ⟨id, loan, kind, day, amt, ack⟩).toList w2) := ⟨below_trans AB.out b2, tab_below HW.out (below_trans AB.out b2), NB.out.below b2⟩
      have m0 := S2.out.2.2.cell 0 _ rfl
      have m1 := S2.out.2.2.cell 1 _ rfl
      have m2 := S2.out.2.2.cell 2 _ rfl
      have m4 := S2.out.2.2.cell 4 _ rfl
      clear n0 b2
      go_wp2_with fail
      go_ret2
      exact ⟨congrArg _ EQ.out.symm, S2.out.1⟩
    · skip
      by_cases hl : loan < 1
      · skip
        have EQ : Hid (AN = _) := NO (fun h => by have := Hm.1 h; omega)
        clear NO YES LD FN FY SE I1 I2 FA LI LL DL Hm hd
        go_enter Tryd.func7, Tryd.ntmps7
        go_upto_region 1 with fail
        generalize w.alloc (.cells #[.int .i64 id, .int .i64 loan, .int .i64 kind, .int .i64 day, .int .i64 amt, .bool ack] 23) = W at *
        have n0 := NB.out.cell 3 _ rfl
        go_wp2_with fail
        refine (FD.out _ (tab_below HW.out AB.out)).mono ?_
        rintro e w2 ⟨rfl, b2⟩
        have S2 : Hid (Below w.heap.size w w2 ∧ TabW w2 ∧ Blk w.heap.size 23 (ntC ⟨id, loan, kind, day, amt, ack⟩).toList w2) := ⟨below_trans AB.out b2, tab_below HW.out (below_trans AB.out b2), NB.out.below b2⟩
        have m0 := S2.out.2.2.cell 0 _ rfl
        have m1 := S2.out.2.2.cell 1 _ rfl
        have m2 := S2.out.2.2.cell 2 _ rfl
        have m4 := S2.out.2.2.cell 4 _ rfl
        clear n0 b2
        go_wp2_with fail
        go_ret2
        exact ⟨congrArg _ EQ.out.symm, S2.out.1⟩
      · skip
        by_cases hk : kind < 1
        · skip
          have EQ : Hid (AN = _) := NO (fun h => by have := Hm.1 h; omega)
          clear NO YES LD FN FY SE I1 I2 FA LI LL DL Hm hd
          go_enter Tryd.func7, Tryd.ntmps7
          go_upto_region 1 with fail
          generalize w.alloc (.cells #[.int .i64 id, .int .i64 loan, .int .i64 kind, .int .i64 day, .int .i64 amt, .bool ack] 23) = W at *
          have n0 := NB.out.cell 3 _ rfl
          go_wp2_with fail
          refine (FD.out _ (tab_below HW.out AB.out)).mono ?_
          rintro e w2 ⟨rfl, b2⟩
          have S2 : Hid (Below w.heap.size w w2 ∧ TabW w2 ∧ Blk w.heap.size 23 (ntC ⟨id, loan, kind, day, amt, ack⟩).toList w2) := ⟨below_trans AB.out b2, tab_below HW.out (below_trans AB.out b2), NB.out.below b2⟩
          have m0 := S2.out.2.2.cell 0 _ rfl
          have m1 := S2.out.2.2.cell 1 _ rfl
          have m2 := S2.out.2.2.cell 2 _ rfl
          have m4 := S2.out.2.2.cell 4 _ rfl
          clear n0 b2
          go_wp2_with fail
          go_ret2
          exact ⟨congrArg _ EQ.out.symm, S2.out.1⟩
        · skip
          by_cases hq : 9 < kind
          · skip
            have EQ : Hid (AN = _) := NO (fun h => by have := Hm.1 h; omega)
            clear NO YES LD FN FY SE I1 I2 FA LI LL DL Hm hd
            go_enter Tryd.func7, Tryd.ntmps7
            go_upto_region 1 with fail
            generalize w.alloc (.cells #[.int .i64 id, .int .i64 loan, .int .i64 kind, .int .i64 day, .int .i64 amt, .bool ack] 23) = W at *
            have n0 := NB.out.cell 3 _ rfl
            go_wp2_with fail
            refine (FD.out _ (tab_below HW.out AB.out)).mono ?_
            rintro e w2 ⟨rfl, b2⟩
            have S2 : Hid (Below w.heap.size w w2 ∧ TabW w2 ∧ Blk w.heap.size 23 (ntC ⟨id, loan, kind, day, amt, ack⟩).toList w2) := ⟨below_trans AB.out b2, tab_below HW.out (below_trans AB.out b2), NB.out.below b2⟩
            have m0 := S2.out.2.2.cell 0 _ rfl
            have m1 := S2.out.2.2.cell 1 _ rfl
            have m2 := S2.out.2.2.cell 2 _ rfl
            have m4 := S2.out.2.2.cell 4 _ rfl
            clear n0 b2
            go_wp2_with fail
            go_ret2
            exact ⟨congrArg _ EQ.out.symm, S2.out.1⟩
          · skip
            by_cases ha : amt < 0
            · skip
              have EQ : Hid (AN = _) := NO (fun h => by have := Hm.1 h; omega)
              clear NO YES LD FN FY SE I1 I2 FA LI LL DL Hm hd
              go_enter Tryd.func7, Tryd.ntmps7
              go_upto_region 1 with fail
              generalize w.alloc (.cells #[.int .i64 id, .int .i64 loan, .int .i64 kind, .int .i64 day, .int .i64 amt, .bool ack] 23) = W at *
              have n0 := NB.out.cell 3 _ rfl
              go_wp2_with fail
              refine (FD.out _ (tab_below HW.out AB.out)).mono ?_
              rintro e w2 ⟨rfl, b2⟩
              have S2 : Hid (Below w.heap.size w w2 ∧ TabW w2 ∧ Blk w.heap.size 23 (ntC ⟨id, loan, kind, day, amt, ack⟩).toList w2) := ⟨below_trans AB.out b2, tab_below HW.out (below_trans AB.out b2), NB.out.below b2⟩
              have m0 := S2.out.2.2.cell 0 _ rfl
              have m1 := S2.out.2.2.cell 1 _ rfl
              have m2 := S2.out.2.2.cell 2 _ rfl
              have m4 := S2.out.2.2.cell 4 _ rfl
              clear n0 b2
              go_wp2_with fail
              go_ret2
              exact ⟨congrArg _ EQ.out.symm, S2.out.1⟩
            · skip
              have hm : MAY := Hm.2 (by omega)
              have EQ : Hid (AN = _) := YES hm
              have LD := LD hm
              have SE := SE hm
              have I1 := I1 hm
              have I2 := I2 hm
              have FA := FA hm
              have LI := LI hm
              have LL := LL hm
              have DL := DL hm
              clear NO YES FN FY Hm hd hm
              go_enter Tryd.func7, Tryd.ntmps7
              go_upto_region 1 with fail
              generalize w.alloc (.cells #[.int .i64 id, .int .i64 loan, .int .i64 kind, .int .i64 day, .int .i64 amt, .bool ack] 23) = W at *
              have n0 := NB.out.cell 3 _ rfl
              go_wp2_with fail
              refine (FD.out _ (tab_below HW.out AB.out)).mono ?_
              rintro e w2 ⟨rfl, b2⟩
              have S2 : Hid (Below w.heap.size w w2 ∧ TabW w2 ∧ Blk w.heap.size 23 (ntC ⟨id, loan, kind, day, amt, ack⟩).toList w2) := ⟨below_trans AB.out b2, tab_below HW.out (below_trans AB.out b2), NB.out.below b2⟩
              have m0 := S2.out.2.2.cell 0 _ rfl
              have m1 := S2.out.2.2.cell 1 _ rfl
              have m2 := S2.out.2.2.cell 2 _ rfl
              have m4 := S2.out.2.2.cell 4 _ rfl
              clear n0 b2
              have HPX : Hid (({ data := #[78, 111, 116, 105, 99, 101, 32] } : ByteArray) ++ { data := DI.toArray } ++ { data := #[32, 111, 102, 32] } ++ { data := DD.toArray } ++ { data := #[58, 32] } = ⟨(notB ++ DI ++ ofB ++ DD ++ colB).toArray⟩) := by
                show _ = _
                apply ByteArray.ext
                simp [notB, ofB, colB]
              have LPX : (notB ++ DI ++ ofB ++ DD ++ colB).length ≤ 100 := by simp [notB, ofB, colB]; omega
              go_upto_region 4 with fail
              go_cut [6] from 40 to 47 (fun v6 wx => v6 = .string ⟨(notB ++ DI ++ ofB ++ DD ++ colB).toArray⟩ ∧ Hid (Below w.heap.size w wx ∧ TabW wx ∧ Blk w.heap.size 23 (ntC ⟨id, loan, kind, day, amt, ack⟩).toList wx))
              case first =>
                go_wp2_with fail
                refine (I1.out _ S2.out.2.1).mono ?_
                rintro e w3 ⟨rfl, b3⟩
                have S3 : Hid (Below w.heap.size w w3 ∧ TabW w3 ∧ Blk w.heap.size 23 (ntC ⟨id, loan, kind, day, amt, ack⟩).toList w3) := ⟨below_trans S2.out.1 b3, tab_below S2.out.2.1 b3, S2.out.2.2.below b3⟩
                clear b3 m0 m1 m2 m4 S2
                go_wp2_with fail
                go_meet
                case rel => exact ⟨by apply congrArg Value.string; first | exact HPX.out | (apply ByteArray.ext; simp [notB, ofB, colB]), S3⟩
              case rest =>
               obtain ⟨rfl, S3⟩ := hcut
               clear m0 m1 m2 m4 S2 HPX
               generalize notB ++ DI ++ ofB ++ DD ++ colB = PX at *
               have HB : Hid (∀ w', Below wc.heap.size wc w' → Below w.heap.size w w' ∧ TabW w') := fun w' b => ⟨below_trans S3.out.1 b, tab_below S3.out.2.1 b⟩
               have S0 : Hid (Below wc.heap.size wc wc ∧ True) := ⟨Below.refl _ _, trivial⟩
               have m1 := S3.out.2.2.cell 1 _ rfl
               have m2 := S3.out.2.2.cell 2 _ rfl
               have m4 := S3.out.2.2.cell 4 _ rfl
               have LSUM : PX.length + LY.length ≤ 9223372036854775807 := by omega
               have LSUN : ¬ 9223372036854775807 < PX.length + LY.length := by omega
               have LSUD : decide (9223372036854775807 < PX.length + LY.length) = false := decide_eq_false LSUN
               go_upto_region 5 with fail
               go_region_held3 (fun w' => Below wc.heap.size wc w' ∧ w'.cell? ⟨w.heap.size, 1, none⟩ = some (.int .i64 loan) ∧ w'.cell? ⟨w.heap.size, 2, none⟩ = some (.int .i64 kind) ∧ w'.cell? ⟨w.heap.size, 4, none⟩ = some (.int .i64 amt)) (first | assumption | exact ⟨Below.drew S0.out.1, m1, m2, m4⟩ | exact held3n hU (by assumption)) (first | (go_at_call 14; refine (I2.out _ (HB.out _ (And.left (by assumption))).2).mono ?_; rintro e w1 ⟨rfl, hU⟩) | (go_at_call 16; refine (FA.out _ (HB.out _ (And.left (by assumption))).2).mono ?_; rintro e w1 ⟨rfl, hU⟩) | (go_at_call 15; refine (SE.out _).mono ?_; rintro e w1 ⟨rfl, hU⟩))
               rename_i hH
               have S4 : Hid (Below w.heap.size w w1) := (HB.out _ hH.1).1
               clear hH hU m1 m2 m4 S0 HB S3
               go_wp2_with fail
               go_ret2
               refine ⟨?_, S4.out⟩
               rw [EQ.out, LD.out]
               exact ret_sb (by apply ByteArray.ext; simp) rfl
  · have FD := FN hd
    have EQ : Hid (AN = _) := NO (fun h => by have := Hm.1 h; omega)
    clear NO YES LD FN FY SE I1 I2 FA LI LL DL Hm
    go_enter Tryd.func7, Tryd.ntmps7
    go_upto_region 1 with fail
    generalize w.alloc (.cells #[.int .i64 id, .int .i64 loan, .int .i64 kind, .int .i64 day, .int .i64 amt, .bool ack] 23) = W at *
    have n0 := NB.out.cell 3 _ rfl
    go_wp2_with fail
    refine (FD.out _).mono ?_
    rintro e w2 ⟨rfl, b2⟩
    have S2 : Hid (Below w.heap.size w w2 ∧ TabW w2 ∧ Blk w.heap.size 23 (ntC ⟨id, loan, kind, day, amt, ack⟩).toList w2) := ⟨below_trans AB.out b2, tab_below HW.out (below_trans AB.out b2), NB.out.below b2⟩
    have m0 := S2.out.2.2.cell 0 _ rfl
    have m1 := S2.out.2.2.cell 1 _ rfl
    have m2 := S2.out.2.2.cell 2 _ rfl
    have m4 := S2.out.2.2.cell 4 _ rfl
    clear n0 b2
    go_wp2_with fail
    go_ret2
    exact ⟨congrArg _ EQ.out.symm, S2.out.1⟩
theorem tried_at (n : RpM.Nt) (on : n.Ok) (l : List UInt8) (w : World) (hw : TabW w) : Calls Tryd.prog 19 #[ntV n, .string ⟨l.toArray⟩] w fun e w' => e = .returned (.bool (decide (may n ∧ letN n = l))) ∧ Below w.heap.size w w' := by
  have LC : Hid (∀ w, TabW w → Calls Tryd.prog 7 #[ntV n] w fun e w' => e = .returned (letA n) ∧ Below w.heap.size w w') := fun w hw => rletter_at n on w hw
  have HW : Hid (TabW (w.alloc (.cells (ntC n) 23)) ∧ Below w.heap.size w (w.alloc (.cells (ntC n) 23))) := ⟨tab_below hw (below_alloc _ _), below_alloc _ _⟩
  clear hw
  by_cases hm : may n
  · have EA : letA n = .tuple #[.string ⟨(letN n).toArray⟩, .bool true] := if_pos hm
    rw [EA] at LC
    by_cases he : letN n = l
    · rw [decide_eq_true ⟨hm, he⟩]
      rw [he] at LC
      clear EA hm he
      obtain ⟨id, loan, kind, day, amt, ack⟩ := n
      go_enter Tryd.func19, Tryd.ntmps19
      go_wp2_with fail
      refine (LC.out _ HW.out.1).mono ?_
      rintro e w2 ⟨rfl, b2⟩
      have B2 : Hid (Below w.heap.size w w2) := below_trans HW.out.2 b2
      clear b2
      go_wp2_with fail
      go_ret
      exact ⟨rfl, B2.out⟩
    · rw [decide_eq_false (fun h => he h.2)]
      have hb2 : (letN n == l) = false := by simpa using he
      generalize letN n = LN at *
      clear EA hm
      obtain ⟨id, loan, kind, day, amt, ack⟩ := n
      go_enter Tryd.func19, Tryd.ntmps19
      go_wp2_with fail
      refine (LC.out _ HW.out.1).mono ?_
      rintro e w2 ⟨rfl, b2⟩
      have B2 : Hid (Below w.heap.size w w2) := below_trans HW.out.2 b2
      clear b2
      go_wp2_with fail
      go_ret
      exact ⟨rfl, B2.out⟩
  · have EA : letA n = .tuple #[.string ⟨#[]⟩, .bool false] := if_neg hm
    rw [EA] at LC
    rw [decide_eq_false (fun h => hm h.1)]
    clear EA hm
    obtain ⟨id, loan, kind, day, amt, ack⟩ := n
    go_enter Tryd.func19, Tryd.ntmps19
    go_wp2_with fail
    refine (LC.out _ HW.out.1).mono ?_
    rintro e w2 ⟨rfl, b2⟩
    have B2 : Hid (Below w.heap.size w w2) := below_trans HW.out.2 b2
    clear b2
    go_wp2_with fail
    go_ret
    exact ⟨rfl, B2.out⟩
theorem rdigit_at (c : UInt8) (w : World) : Calls Tryd.prog 34 #[.int .u8 (c.toNat : Int)] w fun e w' => e = .returned (.bool (dgB c)) ∧ w = w' := by
  unfold dgB
  by_cases h1 : 48 ≤ c.toNat
  · have h1' : (48 : Int) ≤ (c.toNat : Int) := by omega
    by_cases h2 : c.toNat ≤ 57
    · have h2' : (c.toNat : Int) ≤ 57 := by omega
      rw [decide_eq_true ⟨h1, h2⟩]
      generalize c.toNat = C at *
      go_enter Tryd.func34, Tryd.ntmps34
      go_wp2_with fail
      go_ret
      exact ⟨rfl, rfl⟩
    · have h2' : ¬ (c.toNat : Int) ≤ 57 := by omega
      rw [decide_eq_false (fun h => h2 h.2)]
      generalize c.toNat = C at *
      go_enter Tryd.func34, Tryd.ntmps34
      go_wp2_with fail
      go_ret
      exact ⟨rfl, rfl⟩
  · have h1' : ¬ (48 : Int) ≤ (c.toNat : Int) := by omega
    rw [decide_eq_false (fun h => h1 h.1)]
    generalize c.toNat = C at *
    go_enter Tryd.func34, Tryd.ntmps34
    go_wp2_with fail
    go_ret
    exact ⟨rfl, rfl⟩
end Go.Proofs.YtpkgdkgbbbbaoaaDoor
