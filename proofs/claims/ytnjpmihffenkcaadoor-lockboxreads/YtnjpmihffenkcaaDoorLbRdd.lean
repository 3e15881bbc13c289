/-
  Ours: lockbox.readDetails (gen_lbrdd.py).
-/
import Derived.Test.YtnjpmihffenkcaaDoorLbRdt
import Derived.Test.YtnjpmihffenkcaaDoorLbUni
import Derived.Test.YtnjpmihffenkcaaDoorScPsh
import Derived.BigGuard
namespace Go.Proofs.YtnjpmihffenkcaaDoor
open Go.RowKit LbM LbF
namespace LbF
/-- Bytes; what stands of the file's payments behind i of them. -/
def Byts (l : List Nat) : Prop := (∀ x ∈ l, x < 256) ∧ l.length ≤ 1000000
theorem Byts.suf {l r : List Nat} (h : Byts l) (s : r <:+ l) : Byts r := ⟨fun z hz => h.1 z (s.mem hz), Nat.le_trans s.length_le h.2⟩
def dS (bs : List Nat) (i : Nat) (its : List It) (cur : List Nat) : Prop := rdDets 9999 0 bs = (rdDets (9999 - i) i cur).map fun p => (its ++ p.1, p.2)
theorem dS_start (bs : List Nat) : dS bs 0 [] bs := by
  unfold dS
  cases rdDets (9999 - 0) 0 bs <;> rfl
theorem dS_end {bs cur : List Nat} {its : List It} (h : dS bs 9999 its cur) : rdDets 9999 0 bs = .ok (its, cur) := by
  have e : rdDets (9999 - 9999) 9999 cur = .ok ([], cur) := rfl
  rw [dS, e] at h
  simpa [Except.map] using h
theorem dS_stop {bs cur : List Nat} {its : List It} {i : Nat} (hi : i < 9999) (h : dS bs i its cur) (hs : 0 < i ∧ cur.head? = some 84) : rdDets 9999 0 bs = .ok (its, cur) := by
  have e : rdDets (9999 - i) i cur = .ok ([], cur) := by rw [show 9999 - i = (9998 - i) + 1 by omega, rdDets, if_pos hs]
  rw [dS, e] at h
  simpa [Except.map] using h
theorem dS_no {bs cur : List Nat} {its : List It} {i c : Nat} (hi : i < 9999) (h : dS bs i its cur) (hs : ¬ (0 < i ∧ cur.head? = some 84)) (hq : rdDet (i + 1) cur = .error c) : rdDets 9999 0 bs = .error (c, i + 1) := by
  have e : rdDets (9999 - i) i cur = .error (c, i + 1) := by rw [show 9999 - i = (9998 - i) + 1 by omega, rdDets, if_neg hs, hq]
  rw [dS, e] at h
  simpa [Except.map] using h
theorem dS_yes {bs cur r : List Nat} {its : List It} {i : Nat} {x : It} (hi : i < 9999) (h : dS bs i its cur) (hs : ¬ (0 < i ∧ cur.head? = some 84)) (hq : rdDet (i + 1) cur = .ok (x, r)) : dS bs (i + 1) (its ++ [x]) r := by
  have e : rdDets (9999 - i) i cur = (rdDets (9999 - (i + 1)) (i + 1) r).map fun p => (x :: p.1, p.2) := by
    rw [show 9999 - i = (9998 - i) + 1 by omega, rdDets, if_neg hs, hq, show 9998 - i = 9999 - (i + 1) by omega]
  rw [dS, e] at h
  rw [dS, h]
  cases rdDets (9999 - (i + 1)) (i + 1) r <;> simp [Except.map]
theorem det_suffix {i : Nat} {cur r : List Nat} {x : It} (hq : rdDet i cur = .ok (x, r)) : r <:+ cur := by
  unfold rdDet at hq
  split at hq
  · rename_i s l c a r1 he
    obtain ⟨e, _⟩ := rdL_iff.1 he
    split at hq
    · cases hq
    · split at hq
      · cases hq
      · split at hq
        · cases hq
        · injection hq with hq
          injection hq with _ hq
          rw [e, ← hq]
          exact ⟨_, rfl⟩
  · cases hq
end LbF
theorem det_cases (i : Nat) (cur : List Nat) : (∃ c, rdDet i cur = .error c) ∨ ∃ x r, rdDet i cur = .ok (x, r) := by
  generalize rdDet i cur = y
  cases y with
  | error c => exact .inl ⟨c, rfl⟩
  | ok q => exact .inr ⟨q.1, q.2, rfl⟩
theorem detAns_no {i c : Nat} {cur : List Nat} {v : Value} {w w' : World} {e : Ending} (hq : rdDet i cur = .error c) (h : DetAns i cur v w e w') : e = .returned (.tuple #[.agg #[.int .i64 0, .int .i64 0], .slice none 0 0, .iface 65 (.agg #[.int .i64 (c : Int), .int .i64 (i : Int)])]) := by
  have := h.2
  rw [hq] at this
  exact this
theorem detAns_yes {i : Nat} {x : It} {cur r : List Nat} {v : Value} {w w' : World} {e : Ending} (hq : rdDet i cur = .ok (x, r)) (h : DetAns i cur v w e w') : ∃ vr, e = .returned (.tuple #[.agg #[.int .i64 x.ln, .int .i64 x.am], vr, .nilIface]) ∧ ∀ w0, RdB w0 v cur → RdB w0 vr r := by
  have := h.2
  rw [hq] at this
  exact this
theorem own_later {e : TypeId} {base sz n : Nat} {w w' : World} {v : Value} {xs : List Value} (h : w.ownsRow base e sz v n xs) (hb : Below w.heap.size w w') : w'.ownsRow base e sz v n xs := by
  refine World.ownsRow.kept h (row := none) ⟨hb.os, hb.tape, hb.output, hb.size, fun k hk _ => hb.block k hk⟩ ?_
  cases hv : v.ownBlock <;> simp
/-- What readDetails answers. -/
def DesAns (bs : List Nat) (v : Value) (w : World) (e : Ending) (w' : World) : Prop := Below w.heap.size w w' ∧ match rdDets 9999 0 bs with
  | .ok (l, r) => ∃ a n c vr, e = .returned (.tuple #[.slice a n c, vr, .nilIface]) ∧ RowI w.heap.size w' (.slice a n c) l ∧ ∀ w0, RdB w0 v bs → RdB w0 vr r
  | .error (c, i) => e = .returned (.tuple #[.slice none 0 0, .slice none 0 0, fltV c i])
/-- What stands while the payments are read. -/
def RDs (bs : List Nat) (v : Value) (w : World) (i : Nat) (vr vi : Value) (wr : World) : Prop :=
  ∃ (its : List It) (cur : List Nat), dS bs i its cur ∧ its.length = i ∧ Below w.heap.size w wr ∧ (∀ w0, RdB w0 v bs → RdB w0 vr cur) ∧ Byts cur ∧ RowI w.heap.size wr vi its
set_option maxRecDepth 20000 in
set_option maxHeartbeats 8000000 in
theorem readDetails_at (bs : List Nat) (v : Value) (w : World) (hw : FormW w) (tp : TabP w) (hl : bs.length ≤ 1000000) (h : RdB w v bs) (h8 : ∀ x ∈ bs, x < 256) : Calls Tryd.prog 44 #[v] w (DesAns bs v w) := by
  obtain ⟨i0, hi, hz0, hz1, hz2⟩ := info_parts infoIt
  obtain ⟨av, nv, cv, rfl⟩ : ∃ a n c, v = .slice a n c := by obtain ⟨a, c, e, _⟩ := h.len; exact ⟨a, _, c, e⟩
  have BG : Hid (∀ (cur : List Nat) (vr : Value) (w' : World), Below w.heap.size w w' → RdB w vr cur → Byts cur → Calls Tryd.prog 62 #[vr, .int .i64 2] w' fun e w2 => e = .returned (.bool (decide (cur.head? = some 84))) ∧ Below w'.heap.size w' w2) := fun cur vr w' q r1 r2 => begins_at 2 (by decide) cur vr w' (hw.later q) (Rd.later r1 q) r2.1
  have RD : Hid (∀ (i : Nat) (cur : List Nat) (vr : Value) (w' : World), Below w.heap.size w w' → RdB w vr cur → Byts cur → Calls Tryd.prog 63 #[vr, .int .i64 ((i : Int) + 1)] w' (DetAns (i + 1) cur vr w')) := fun i cur vr w' q r1 r2 => readDetail_at (i + 1) cur vr w' (hw.later q) (tp.below q) r2.2 (Rd.later r1 q) r2.1
  have RB : Hid (RdB w (.slice av nv cv) bs) := h
  have H8 : Hid (Byts bs) := ⟨h8, hl⟩
  generalize hans : DesAns bs (.slice av nv cv) w = ANS
  have AN0 : Hid (∀ w' c i, Below w.heap.size w w' → rdDets 9999 0 bs = .error (c, i) → ANS (.returned (.tuple #[.slice none 0 0, .slice none 0 0, fltV c i])) w') := fun w' c i b hn => by
    rw [← hans]
    unfold DesAns
    rw [hn]
    exact ⟨b, rfl⟩
  have AN1 : Hid (∀ w' a n c vr l r, Below w.heap.size w w' → rdDets 9999 0 bs = .ok (l, r) → RowI w.heap.size w' (.slice a n c) l → (∀ w0, RdB w0 (.slice av nv cv) bs → RdB w0 vr r) → ANS (.returned (.tuple #[.slice a n c, vr, .nilIface])) w') := fun w' a n c vr l r b hn h1 h2 => by
    rw [← hans]
    unfold DesAns
    rw [hn]
    exact ⟨b, a, n, c, vr, rfl, h1, h2⟩
  clear h hw tp hl h8 hans
  obtain ⟨L, hL⟩ : ∃ L : Nat, L = 9999 := ⟨_, rfl⟩
  have HL : Hid (L = 9999) := hL
  clear hL
  go_enter Tryd.func44, Tryd.ntmps44
  go_wp2_with fail
  go_loopw [0, 5, 10] (fun vr vf vk wr => ∃ (i : Nat) (vq : Value) (a : Option Addr) (n c : Nat), vk = .int .i64 (i : Int) ∧ i ≤ L ∧ vq = vr ∧ vf = .slice a n c ∧ Hid (RDs bs (.slice av nv cv) w i vq (.slice a n c) wr)) (fun _ _ vk _ => L - (intOf vk).toNat)
  case atStart => exact ⟨0, _, none, 0, 0, rfl, Nat.zero_le _, rfl, rfl, [], bs, dS_start bs, rfl, Below.refl _ _, fun _ q => q, H8.out, World.ownsRow_nil _ _ _ _⟩
  case round =>
    obtain ⟨i, vr, a, n, c, rfl, hik, rfl, rfl, HR⟩ := hrel
    obtain ⟨its, cur, x1, x2, x3, x4, x5, x6⟩ := HR.out
    have HX : Hid (dS bs i its cur ∧ its.length = i ∧ Below w.heap.size w wr ∧ (∀ w0, RdB w0 (.slice av nv cv) bs → RdB w0 vr cur) ∧ Byts cur ∧ RowI w.heap.size wr (.slice a n c) its) := ⟨x1, x2, x3, x4, x5, x6⟩
    clear x1 x2 x3 x4 x5 x6 HR
    by_cases hlt : (i : Int) < 9999
    · have hlt9 : Hid (i < 9999) := by show _ < _; omega
      have hltL : Hid (i < L) := by show _ < _; have := HL.out; omega
      have hwr : IntKind.i64.wrap ((i : Int) + 1) = (i : Int) + 1 := by simp [IntKind.wrap, IntKind.bits, IntKind.signed]; omega
      by_cases hp : 0 < (i : Int)
      · have BG1 := BG.out cur vr wr HX.out.2.2.1 (HX.out.2.2.2.1 w RB.out) HX.out.2.2.2.2.1
        have BG2 : Hid (Calls Tryd.prog 62 #[vr, .int .i64 2] wr fun e w2 => e = .returned (.bool (decide (cur.head? = some 84))) ∧ Below wr.heap.size wr w2) := BG1
        clear BG1
        by_cases hh : cur.head? = some 84
        · have YES : Hid (rdDets 9999 0 bs = .ok (its, cur)) := dS_stop hlt9.out HX.out.1 ⟨by omega, hh⟩
          rw [decide_eq_true hh] at BG2
          clear hh hlt9
          go_upto_region 5 with fail
          clear hlt hik
          go_wp2_with fail
          refine BG2.out.mono ?_
          rintro e w2 ⟨rfl, b2⟩
          clear BG2
          have HX2 : Hid (Below w.heap.size w w2 ∧ RowI w.heap.size w2 (.slice a n c) its) := ⟨below_trans HX.out.2.2.1 b2, own_later HX.out.2.2.2.2.2 b2⟩
          clear b2
          go_wp2_with fail
          go_ret3
          exact AN1.out _ _ _ _ _ _ _ HX2.out.1 YES.out HX2.out.2 HX.out.2.2.2.1
        · have hne : ¬ (0 < i ∧ cur.head? = some 84) := fun q => hh q.2
          rw [decide_eq_false hh] at BG2
          clear hh
          go_upto_region 5 with fail
          clear hlt hik
          go_wp2_with fail
          refine BG2.out.mono ?_
          rintro e w2 ⟨rfl, b2⟩
          clear BG2
          have HX' := HX.out
          have HX2 : Hid (dS bs i its cur ∧ its.length = i ∧ Below w.heap.size w w2 ∧ (∀ w0, RdB w0 (.slice av nv cv) bs → RdB w0 vr cur) ∧ Byts cur ∧ RowI w.heap.size w2 (.slice a n c) its) := ⟨HX'.1, HX'.2.1, below_trans HX'.2.2.1 b2, HX'.2.2.2.1, HX'.2.2.2.2.1, own_later HX'.2.2.2.2.2 b2⟩
          clear HX' b2 HX
          go_wp2_with fail
          refine (RD.out i cur vr w2 HX2.out.2.2.1 (HX2.out.2.2.2.1 w RB.out) HX2.out.2.2.2.2.1).mono ?_
          rintro e w3 hm
          have b3 := hm.1
          have B3 : Hid (Below w.heap.size w w3) := below_trans HX2.out.2.2.1 b3
          rcases det_cases (i + 1) cur with ⟨ce, hq⟩ | ⟨x, r, hq⟩
          · replace hm := detAns_no hq hm
            subst hm
            have NO : Hid (rdDets 9999 0 bs = .error (ce, i + 1)) := dS_no hlt9.out HX2.out.1 hne hq
            have B4 : Hid (Below w.heap.size w (w3.alloc (.cells #[.int .i64 0, .int .i64 0] 43))) := below_trans B3.out (below_alloc _ _)
            clear hq b3 hne
            go_wp2_with fail
            go_ret3
            exact AN0.out _ ce (i + 1) B4.out NO.out
          · obtain ⟨vr2, rfl, rvr⟩ := detAns_yes hq hm
            have own3 : w3.ownsRow w.heap.size 43 2 (.slice a n c) i (itsL its) := by have := own_later HX2.out.2.2.2.2.2 b3 ; rwa [HX2.out.2.1] at this
            have S4 : Hid (Blk w3.heap.size 43 (itL x) (w3.alloc (.cells #[.int .i64 x.ln, .int .i64 x.am] 43)) ∧ Below w.heap.size w (w3.alloc (.cells #[.int .i64 x.ln, .int .i64 x.am] 43)) ∧ (w3.alloc (.cells #[.int .i64 x.ln, .int .i64 x.am] 43)).ownsRow w.heap.size 43 2 (.slice a n c) i (itsL its)) := ⟨Blk.new 43 (itL x) w3, below_trans B3.out (below_alloc _ _), own_later own3 (below_alloc _ _)⟩
            have HN : Hid (dS bs (i + 1) (its ++ [x]) r ∧ (its ++ [x]).length = i + 1 ∧ (∀ w0, RdB w0 (.slice av nv cv) bs → RdB w0 vr2 r) ∧ Byts r) := ⟨dS_yes hlt9.out HX2.out.1 hne hq, by rw [List.length_append, HX2.out.2.1]; rfl, fun w0 q0 => rvr w0 (HX2.out.2.2.2.1 w0 q0), HX2.out.2.2.2.2.1.suf (det_suffix hq)⟩
            clear hq b3 hne own3 HX2 rvr
            go_upto_region 7 with fail
            generalize w3.alloc (.cells #[.int .i64 x.ln, .int .i64 x.am] 43) = w4 at *
            have own4 := S4.out.2.2
            have hsz4 : w.heap.size ≤ w4.heap.size := S4.out.2.1.size
            have m1 : i + 1 ≤ maxLen := by have := hlt9.out; unfold maxLen; omega
            have m2 : (i + 1) * 16 ≤ 140737488355328 := by have := hlt9.out; omega
            go_wp2_with (first
              | (refine step_load rfl 43 _ rfl w3.heap.size 0 rfl (itL x) _ (Blk.all S4.out.1) Tryd.underlying43 rfl (sizeIt x) ?_)
              | (at_builtin; refine wpList_pushR rfl (.tmp 30) (.tmp 32) 22 rfl 43 i0 (.agg #[.int .i64 0, .int .i64 0]) 2 16 Tryd.underlying22 hi hz0 hz1 hz2 rfl (by decide) w.heap.size (.slice a n c) i (itsL its) (itL x) rfl (oneIt x) rfl own4 hsz4 rfl m1 m2 ?_; intro a5 n5 c5 w5 r5 g5 _))
            have R5 : Hid (Below w.heap.size w w5 ∧ RowI w.heap.size w5 (.slice a5 n5 c5) (its ++ [x])) := ⟨S4.out.2.1.grown g5 hsz4 (fun j hj => (World.ownsRow.lt own4 j hj).1), by
              show w5.ownsRow _ _ 2 _ (its ++ [x]).length (itsL (its ++ [x]))
              rw [HN.out.2.1]
              have e9 : itsL (its ++ [x]) = itsL its ++ itL x := by simp [itsL]
              rw [e9]
              exact r5⟩
            clear r5 g5 own4 hsz4 m1 m2 S4 B3 hlt9
            go_wp2_with fail
            go_roundw
            case rel => exact ⟨i + 1, vr2, a5, n5, c5, by go_num, hltL.out, rfl, rfl, its ++ [x], r, HN.out.1, HN.out.2.1, R5.out.1, HN.out.2.2.1, HN.out.2.2.2, R5.out.2⟩
            case measure => have := hltL.out; simp [intOf]; omega
      · have hne : ¬ (0 < i ∧ cur.head? = some 84) := fun q => hp (by have := q.1; omega)
        have hpd : decide (0 < (i : Int)) = false := decide_eq_false hp
        go_upto_region 5 with fail
        clear hlt hik
        go_wp2_with fail
        refine (RD.out i cur vr wr HX.out.2.2.1 (HX.out.2.2.2.1 w RB.out) HX.out.2.2.2.2.1).mono ?_
        rintro e w3 hm
        have b3 := hm.1
        have B3 : Hid (Below w.heap.size w w3) := below_trans HX.out.2.2.1 b3
        rcases det_cases (i + 1) cur with ⟨ce, hq⟩ | ⟨x, r, hq⟩
        · replace hm := detAns_no hq hm
          subst hm
          have NO : Hid (rdDets 9999 0 bs = .error (ce, i + 1)) := dS_no hlt9.out HX.out.1 hne hq
          have B4 : Hid (Below w.heap.size w (w3.alloc (.cells #[.int .i64 0, .int .i64 0] 43))) := below_trans B3.out (below_alloc _ _)
          clear hq b3 hne
          go_wp2_with fail
          go_ret3
          exact AN0.out _ ce (i + 1) B4.out NO.out
        · obtain ⟨vr2, rfl, rvr⟩ := detAns_yes hq hm
          have own3 : w3.ownsRow w.heap.size 43 2 (.slice a n c) i (itsL its) := by have := own_later HX.out.2.2.2.2.2 b3 ; rwa [HX.out.2.1] at this
          have S4 : Hid (Blk w3.heap.size 43 (itL x) (w3.alloc (.cells #[.int .i64 x.ln, .int .i64 x.am] 43)) ∧ Below w.heap.size w (w3.alloc (.cells #[.int .i64 x.ln, .int .i64 x.am] 43)) ∧ (w3.alloc (.cells #[.int .i64 x.ln, .int .i64 x.am] 43)).ownsRow w.heap.size 43 2 (.slice a n c) i (itsL its)) := ⟨Blk.new 43 (itL x) w3, below_trans B3.out (below_alloc _ _), own_later own3 (below_alloc _ _)⟩
          have HN : Hid (dS bs (i + 1) (its ++ [x]) r ∧ (its ++ [x]).length = i + 1 ∧ (∀ w0, RdB w0 (.slice av nv cv) bs → RdB w0 vr2 r) ∧ Byts r) := ⟨dS_yes hlt9.out HX.out.1 hne hq, by rw [List.length_append, HX.out.2.1]; rfl, fun w0 q0 => rvr w0 (HX.out.2.2.2.1 w0 q0), HX.out.2.2.2.2.1.suf (det_suffix hq)⟩
          clear hq b3 hne own3 HX rvr
          go_upto_region 7 with fail
          generalize w3.alloc (.cells #[.int .i64 x.ln, .int .i64 x.am] 43) = w4 at *
          have own4 := S4.out.2.2
          have hsz4 : w.heap.size ≤ w4.heap.size := S4.out.2.1.size
          have m1 : i + 1 ≤ maxLen := by have := hlt9.out; unfold maxLen; omega
          have m2 : (i + 1) * 16 ≤ 140737488355328 := by have := hlt9.out; omega
          go_wp2_with (first
            | (refine step_load rfl 43 _ rfl w3.heap.size 0 rfl (itL x) _ (Blk.all S4.out.1) Tryd.underlying43 rfl (sizeIt x) ?_)
            | (at_builtin; refine wpList_pushR rfl (.tmp 30) (.tmp 32) 22 rfl 43 i0 (.agg #[.int .i64 0, .int .i64 0]) 2 16 Tryd.underlying22 hi hz0 hz1 hz2 rfl (by decide) w.heap.size (.slice a n c) i (itsL its) (itL x) rfl (oneIt x) rfl own4 hsz4 rfl m1 m2 ?_; intro a5 n5 c5 w5 r5 g5 _))
          have R5 : Hid (Below w.heap.size w w5 ∧ RowI w.heap.size w5 (.slice a5 n5 c5) (its ++ [x])) := ⟨S4.out.2.1.grown g5 hsz4 (fun j hj => (World.ownsRow.lt own4 j hj).1), by
            show w5.ownsRow _ _ 2 _ (its ++ [x]).length (itsL (its ++ [x]))
            rw [HN.out.2.1]
            have e9 : itsL (its ++ [x]) = itsL its ++ itL x := by simp [itsL]
            rw [e9]
            exact r5⟩
          clear r5 g5 own4 hsz4 m1 m2 S4 B3 hlt9
          go_wp2_with fail
          go_roundw
          case rel => exact ⟨i + 1, vr2, a5, n5, c5, by go_num, hltL.out, rfl, rfl, its ++ [x], r, HN.out.1, HN.out.2.1, R5.out.1, HN.out.2.2.1, HN.out.2.2.2, R5.out.2⟩
          case measure => have := hltL.out; simp [intOf]; omega
    · obtain rfl : i = L := by have := HL.out; omega
      have YES : Hid (rdDets 9999 0 bs = .ok (its, cur)) := dS_end (by have := HX.out.1; rwa [HL.out] at this)
      go_wp2_with fail
      go_ret3
      exact AN1.out _ _ _ _ _ _ _ HX.out.2.2.1 YES.out HX.out.2.2.2.2.2 HX.out.2.2.2.1
end Go.Proofs.YtnjpmihffenkcaaDoor
