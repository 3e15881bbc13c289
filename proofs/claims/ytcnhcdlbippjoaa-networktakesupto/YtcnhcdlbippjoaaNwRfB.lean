/-
  Ours: the reference's letter, Fate and Begin (gen_nwrf.py).
-/
import Derived.Test.YtcnhcdlbippjoaaNwRfA
import Derived.Test.YtcnhcdlbippjoaaNwRel
import Derived.Test.YtcnhcdlbippjoaaNwTwo
namespace Go.Proofs.Ytcnhcdlbippjoaa
open Go.RowKit NwM
namespace NwM
def rfateC (r : RNt) (s : ByteArray) : Nat := if 64 < s.size then 1 else if allF s = false then 160 else if 4096 < r.fs.length + s.size then 1 else 0
def rfateT (r : RNt) (s : ByteArray) : RNt := if rfateC r s = 0 then { r with fs := r.fs ++ bytesOf s } else r
theorem Rel.fate {t : Nt} {r : RNt} (h : Rel t r) (s : ByteArray) : fateC t s = rfateC r s ∧ Rel (fateT t s) (rfateT r s) := by
  have ec : fateC t s = rfateC r s := by unfold fateC rfateC; rw [h.fs]
  refine ⟨ec, ?_⟩
  unfold fateT rfateT
  rw [ec]
  split
  · rename_i hc
    have ha : allF s = true := by
      cases q : allF s with
      | true => rfl
      | false =>
        unfold rfateC at hc
        by_cases h64 : 64 < s.size
        · rw [if_pos h64] at hc; cases hc
        · rw [if_neg h64, if_pos q] at hc; cases hc
    exact ⟨h.now, by show t.fs ++ _ = r.fs ++ _; rw [h.fs], h.ac, h.len, (fun f hf => by
      rcases List.mem_append.1 hf with q | q
      · exact h.fok f q
      · exact allF_each ha f q), h.here, h.row, h.bnd⟩
  · exact h
end NwM
theorem letter_at (f : Int) (w : World) : Calls Try.prog 30 #[.int .u8 f] w fun e w' => e = .returned (.bool (decide (f = 120 ∨ f = 100 ∨ (49 ≤ f ∧ f ≤ 57)))) ∧ w = w' := by
  go_enter Try.func30, Try.ntmps30
  by_cases h1 : f = 120
  · have e1 : (f == 120) = true := by simp [h1]
    go_wp2_with fail
    go_ret
    exact ⟨by simp [h1], rfl⟩
  · by_cases h2 : f = 100
    · have e1 : (f == 120) = false := by simp [h1]
      have e2 : (f == 100) = true := by simp [h2]
      go_wp2_with fail
      go_ret
      exact ⟨by simp [h2], rfl⟩
    · have e1 : (f == 120) = false := by simp [h1]
      have e2 : (f == 100) = false := by simp [h2]
      by_cases h3 : 49 ≤ f
      · by_cases h4 : f ≤ 57
        · have e3 : decide (49 ≤ f) = true := decide_eq_true h3
          have e4 : decide (f ≤ 57) = true := decide_eq_true h4
          go_wp2_with fail
          go_ret
          exact ⟨by simp [h3, h4], rfl⟩
        · have e3 : decide (49 ≤ f) = true := decide_eq_true h3
          have e4 : decide (f ≤ 57) = false := decide_eq_false h4
          go_wp2_with fail
          go_ret
          exact ⟨rfl, rfl⟩
      · have e3 : decide (49 ≤ f) = false := decide_eq_false h3
        go_wp2_with fail
        go_ret
        exact ⟨rfl, rfl⟩
theorem rf_fin0 {C C0 : Nat → Prop} {w W : World} {r : RNt} {Q P : Nat} {z0 z1 z2 z3 : Value} {aa : Option Addr} {an ac : Nat} {fa : Option Addr} {fn fc : Nat} {ma : Option Addr} {mn mc : Nat} (h : RefV C W r aa an ac fa fn fc ma mn mc) (hQ : w.heap.size = Q) (hP : Q ≤ P) (_hPr : P < W.heap.size) (hC : ∀ g, C g → g ≠ P) (hC0 : ∀ g, C g → C0 g ∨ Q ≤ g) (hb : Below w.heap.size w W) (B : Blk P 34 [z0, z1, z2, z3] W) :
    Blk P 34 [.int .i64 ((r.now : Nat) : Int), .slice aa an ac, .slice fa fn fc, .slice ma mn mc] ((((W.setCell ⟨P, 0, none⟩ (.int .i64 ((r.now : Nat) : Int))).setCell ⟨P, 1, none⟩ (.slice aa an ac)).setCell ⟨P, 2, none⟩ (.slice fa fn fc)).setCell ⟨P, 3, none⟩ (.slice ma mn mc)) ∧
      RfPost C0 w r (.agg #[.int .i64 ((r.now : Nat) : Int), .slice aa an ac, .slice fa fn fc, .slice ma mn mc]) ((((W.setCell ⟨P, 0, none⟩ (.int .i64 ((r.now : Nat) : Int))).setCell ⟨P, 1, none⟩ (.slice aa an ac)).setCell ⟨P, 2, none⟩ (.slice fa fn fc)).setCell ⟨P, 3, none⟩ (.slice ma mn mc)) := by
  have s2 := grownBy_trans (grownBy_trans (grownBy_trans (setCell_grown W P 0 (.int .i64 ((r.now : Nat) : Int))) (setCell_grown _ P 1 (.slice aa an ac))) (setCell_grown _ P 2 (.slice fa fn fc))) (setCell_grown _ P 3 (.slice ma mn mc))
  refine ⟨(((B.set (i := 0) _).set (i := 1) _).set (i := 2) _).set (i := 3) _, ⟨⟨C, ⟨aa, an, ac, fa, fn, fc, ma, mn, mc, rfl, h.kp (Kp.of_grown s2) (fun g hg e => ?_)⟩, fun g hg => ?_⟩, below_row hb s2 (by omega)⟩⟩
  · injection e with e
    exact hC g hg e.symm
  · rw [hQ]; exact hC0 g hg
set_option maxRecDepth 20000 in
set_option maxHeartbeats 2000000 in
theorem rBegin_at (w : World) : Calls Try.prog 10 #[] w fun e w' => ∃ v', e = .returned v' ∧ RfPost (fun _ => False) w rn0 v' w' := by
  have RR : Hid (RefV (fun _ => False) w rn0 none 0 0 none 0 0 none 0 0) := ⟨World.ownsRow_nil _ _ _ _, (Bd.nil (fun _ => False) w).1, World.ownsRow_nil _ _ _ _, (fun g e => by simp [Value.ownBlock] at e), (Bd.nil (fun _ => False) w).2, (fun g e => by simp [Value.ownBlock] at e), (fun x hx => by cases hx), (fun x hx => by cases hx), (fun g hg => hg.elim)⟩
  go_enter Try.func10, Try.ntmps10
  go_wp2_with fail
  exact ret_blk rfl rfl w.heap.size _ [.int .i64 0, .slice none 0 0, .slice none 0 0, .slice none 0 0] _ rfl (Blk.new _ _ _) Try.underlying34 rfl (by kernel_rfl) ⟨_, rfl, rf_post (r := rn0) RR.out (below_alloc _ _)⟩
set_option maxRecDepth 40000 in
set_option maxHeartbeats 8000000 in
theorem rFate_at (C : Nat → Prop) (r : RNt) (w : World) (v : Value) (s : ByteArray) (h : RefAt C w r v) (hfl : r.fs.length ≤ 4096) :
    Calls Try.prog 15 #[v, .string s] w (fun e w' => ∃ v', e = .returned (.tuple #[v', .int .i64 ((rfateC r s : Nat) : Int)]) ∧ RfPost C w (rfateT r s) v' w') := by
  obtain ⟨i0, hi0, hz0, hz1, hz2⟩ := info_parts infoB
  obtain ⟨aa, an, ac, fa, fn, fc, ma, mn, mc, rfl, h⟩ := h
  have HN : Hid (r.fs.length = fn) := by
    obtain ⟨_, _, ev, -, -⟩ := h.fts.len
    injection ev with _ ev _
    show _ = _
    rw [ev, List.length_map]
  have RV : Hid (RefV C w r aa an ac fa fn fc ma mn mc) := h
  have hfn : fn ≤ 4096 := by rw [← HN.out]; exact hfl
  have IF : Hid (∀ f w, Calls Try.prog 30 #[.int .u8 f] w fun e w' => e = .returned (.bool (decide (f = 120 ∨ f = 100 ∨ (49 ≤ f ∧ f ≤ 57)))) ∧ w = w') := letter_at
  have IDX : Hid (∀ k c, (bytesOf s)[k]? = some c → ∀ W, (Instr.index 9 (.string s) (.int .i64 ((k : Nat) : Int))).run Try.prog W = .ok (.int .u8 ((c : Nat) : Int)) W) := fun k c hc W => index_at s hc W
  have BL : Hid ((bytesOf s).length = s.size) := bytesOf_len s
  clear h hfl
  go_enter Try.func15, Try.ntmps15
  go_upto_region 1 with fail
  have K1 : Hid (Blk w.heap.size 34 [.int .i64 ((r.now : Nat) : Int), .slice aa an ac, .slice fa fn fc, .slice ma mn mc] ((w.alloc (.cells #[.int .i64 ((r.now : Nat) : Int), .slice aa an ac, .slice fa fn fc, .slice ma mn mc] 34)).alloc (.cells #[.int .i64 0, .slice none 0 0, .slice none 0 0, .slice none 0 0] 34)) ∧ Blk (w.heap.size + 1) 34 [.int .i64 0, .slice none 0 0, .slice none 0 0, .slice none 0 0] ((w.alloc (.cells #[.int .i64 ((r.now : Nat) : Int), .slice aa an ac, .slice fa fn fc, .slice ma mn mc] 34)).alloc (.cells #[.int .i64 0, .slice none 0 0, .slice none 0 0, .slice none 0 0] 34)) ∧ ((w.alloc (.cells #[.int .i64 ((r.now : Nat) : Int), .slice aa an ac, .slice fa fn fc, .slice ma mn mc] 34)).alloc (.cells #[.int .i64 0, .slice none 0 0, .slice none 0 0, .slice none 0 0] 34)).heap.size = w.heap.size + 2) := ⟨(Blk.new _ _ _).old _, Blk.new2 _ _ _ _, by simp⟩
  have KB : Hid (Below w.heap.size w ((w.alloc (.cells #[.int .i64 ((r.now : Nat) : Int), .slice aa an ac, .slice fa fn fc, .slice ma mn mc] 34)).alloc (.cells #[.int .i64 0, .slice none 0 0, .slice none 0 0, .slice none 0 0] 34))) := below_trans (below_alloc _ _) (below_alloc _ _)
  have CQ : Hid (∀ g, C g → g < w.heap.size) := RV.out.c
  obtain ⟨Q, hQ⟩ : ∃ Q, w.heap.size = Q := ⟨_, rfl⟩
  rw [hQ] at K1 CQ ⊢
  have HQ : Hid (w.heap.size = Q) := hQ
  clear hQ
  generalize (w.alloc (.cells #[.int .i64 ((r.now : Nat) : Int), .slice aa an ac, .slice fa fn fc, .slice ma mn mc] 34)).alloc (.cells #[.int .i64 0, .slice none 0 0, .slice none 0 0, .slice none 0 0] 34) = w1 at *
  by_cases h64 : 64 < s.size
  · have d1 : (64 : Int) < ((s.size : Nat) : Int) := by omega
    have EC : Hid (rfateC r s = 1) := by show _ = _; unfold rfateC; rw [if_pos h64]
    have ET : Hid (rfateT r s = r) := by show _ = _; unfold rfateT; rw [if_neg (by rw [EC.out]; decide)]
    have q0 := (K1.out.1.below (Below.refl _ _)).cell 0 _ rfl
    have q1 := (K1.out.1.below (Below.refl _ _)).cell 1 _ rfl
    have q2 := (K1.out.1.below (Below.refl _ _)).cell 2 _ rfl
    have q3 := (K1.out.1.below (Below.refl _ _)).cell 3 _ rfl
    have lQ := (K1.out.1.below (Below.refl _ _)).lt
    have dd0 := (K1.out.2.1.below (Below.refl _ _)).cell 0 _ rfl
    have dd1 := (K1.out.2.1.below (Below.refl _ _)).cell 1 _ rfl
    have dd2 := (K1.out.2.1.below (Below.refl _ _)).cell 2 _ rfl
    have dd3 := (K1.out.2.1.below (Below.refl _ _)).cell 3 _ rfl
    have ff := (K1.out.2.1.below (Below.refl _ _)).fz
    have lt8 := (K1.out.2.1.below (Below.refl _ _)).lt
    have FN := (show Hid _ from rf_fin0 (C0 := C) (RV.out.below (below_trans KB.out (Below.refl _ _))) HQ.out (P := Q + 1) (by omega) lt8 (fun g hg => by have := CQ.out g hg; omega) (fun g hg => .inl hg) (below_trans KB.out (Below.refl _ _)) (K1.out.2.1.below (Below.refl _ _)))
    go_wp2_with fail
    exact ret_blk_tmp rfl rfl (Q + 1) _ [.int .i64 ((r.now : Nat) : Int), .slice aa an ac, .slice fa fn fc, .slice ma mn mc] _ rfl FN.out.1 Try.underlying34 rfl (by kernel_rfl) ⟨_, by rw [EC.out]; rfl, by rw [ET.out]; exact FN.out.2⟩
  have d1 : ¬ (64 : Int) < ((s.size : Nat) : Int) := by omega
  by_cases h0 : s.size = 0
  · have d2 : (((s.size : Nat) : Int) == 0) = true := by rw [h0]; rfl
    have EC : Hid (rfateC r s = 160) := by show _ = _; unfold rfateC; rw [if_neg h64, if_pos (by unfold allF; rw [h0]; simp)]
    have ET : Hid (rfateT r s = r) := by show _ = _; unfold rfateT; rw [if_neg (by rw [EC.out]; decide)]
    have q0 := (K1.out.1.below (Below.refl _ _)).cell 0 _ rfl
    have q1 := (K1.out.1.below (Below.refl _ _)).cell 1 _ rfl
    have q2 := (K1.out.1.below (Below.refl _ _)).cell 2 _ rfl
    have q3 := (K1.out.1.below (Below.refl _ _)).cell 3 _ rfl
    have lQ := (K1.out.1.below (Below.refl _ _)).lt
    have dd0 := (K1.out.2.1.below (Below.refl _ _)).cell 0 _ rfl
    have dd1 := (K1.out.2.1.below (Below.refl _ _)).cell 1 _ rfl
    have dd2 := (K1.out.2.1.below (Below.refl _ _)).cell 2 _ rfl
    have dd3 := (K1.out.2.1.below (Below.refl _ _)).cell 3 _ rfl
    have ff := (K1.out.2.1.below (Below.refl _ _)).fz
    have lt8 := (K1.out.2.1.below (Below.refl _ _)).lt
    have FN := (show Hid _ from rf_fin0 (C0 := C) (RV.out.below (below_trans KB.out (Below.refl _ _))) HQ.out (P := Q + 1) (by omega) lt8 (fun g hg => by have := CQ.out g hg; omega) (fun g hg => .inl hg) (below_trans KB.out (Below.refl _ _)) (K1.out.2.1.below (Below.refl _ _)))
    go_wp2_with fail
    exact ret_blk_tmp rfl rfl (Q + 1) _ [.int .i64 ((r.now : Nat) : Int), .slice aa an ac, .slice fa fn fc, .slice ma mn mc] _ rfl FN.out.1 Try.underlying34 rfl (by kernel_rfl) ⟨_, by rw [EC.out]; rfl, by rw [ET.out]; exact FN.out.2⟩
  have d2 : (((s.size : Nat) : Int) == 0) = false := by rw [beq_eq_false_iff_ne]; omega
  go_wp2_with fail
  go_loopw [6] (fun vk wr => ∃ k : Nat, vk = .int .i64 (k : Int) ∧ k ≤ s.size ∧ w1 = wr ∧ Hid (((bytesOf s).take k).all (fun b => decide (isF b)) = true)) (fun vk _ => s.size - (intOf vk).toNat)
  case atStart => exact ⟨0, rfl, by omega, rfl, rfl⟩
  case round =>
    obtain ⟨k, rfl, hk, rfl, HA⟩ := hrel
    by_cases hlt : (k : Int) < ((s.size : Nat) : Int)
    · obtain ⟨c, hc⟩ : ∃ c, (bytesOf s)[k]? = some c := ⟨(bytesOf s)[k]'(by rw [BL.out]; omega), List.getElem?_eq_getElem _⟩
      have ix := IDX.out k c hc
      have HC : Hid ((bytesOf s)[k]? = some c) := hc
      clear hc
      go_wp2_with fail
      refine (IF.out _ _).mono ?_
      rintro e w2 ⟨rfl, rfl⟩
      rw [isF_iff]
      by_cases hF : isF c
      · rw [decide_eq_true hF]
        have HA2 : Hid (((bytesOf s).take (k + 1)).all (fun b => decide (isF b)) = true) := all_take HA.out HC.out (decide_eq_true hF)
        clear HA ix
        go_wp2_with fail
        go_roundw
        case rel => exact ⟨k + 1, by go_num, by omega, by trivial, HA2⟩
        case measure => simp [intOf]; omega
      · rw [decide_eq_false hF]
        have NA : Hid (allF s = false) := by show _ = _; unfold allF; rw [all_not (p := fun b => decide (isF b)) HC.out (decide_eq_false hF)]; rfl
        have EC : Hid (rfateC r s = 160) := by show _ = _; unfold rfateC; rw [if_neg h64, if_pos NA.out]
        have ET : Hid (rfateT r s = r) := by show _ = _; unfold rfateT; rw [if_neg (by rw [EC.out]; decide)]
        have q0 := (K1.out.1.below (Below.refl _ _)).cell 0 _ rfl
        have q1 := (K1.out.1.below (Below.refl _ _)).cell 1 _ rfl
        have q2 := (K1.out.1.below (Below.refl _ _)).cell 2 _ rfl
        have q3 := (K1.out.1.below (Below.refl _ _)).cell 3 _ rfl
        have lQ := (K1.out.1.below (Below.refl _ _)).lt
        have dd0 := (K1.out.2.1.below (Below.refl _ _)).cell 0 _ rfl
        have dd1 := (K1.out.2.1.below (Below.refl _ _)).cell 1 _ rfl
        have dd2 := (K1.out.2.1.below (Below.refl _ _)).cell 2 _ rfl
        have dd3 := (K1.out.2.1.below (Below.refl _ _)).cell 3 _ rfl
        have ff := (K1.out.2.1.below (Below.refl _ _)).fz
        have lt8 := (K1.out.2.1.below (Below.refl _ _)).lt
        have FN := (show Hid _ from rf_fin0 (C0 := C) (RV.out.below (below_trans KB.out (Below.refl _ _))) HQ.out (P := Q + 1) (by omega) lt8 (fun g hg => by have := CQ.out g hg; omega) (fun g hg => .inl hg) (below_trans KB.out (Below.refl _ _)) (K1.out.2.1.below (Below.refl _ _)))
        go_wp2_with fail
        exact ret_blk_tmp rfl rfl (Q + 1) _ [.int .i64 ((r.now : Nat) : Int), .slice aa an ac, .slice fa fn fc, .slice ma mn mc] _ rfl FN.out.1 Try.underlying34 rfl (by kernel_rfl) ⟨_, by rw [EC.out]; rfl, by rw [ET.out]; exact FN.out.2⟩
    · obtain rfl : s.size = k := by omega
      have AF : Hid (allF s = true) := by
        show _ = _
        have := HA.out
        rw [List.take_of_length_le (by rw [BL.out]; exact Nat.le_refl _)] at this
        unfold allF
        rw [this]
        simp [h0]
      clear HA hlt
      by_cases hbig : 4096 < fn + s.size
      · have HB : Hid (4096 < r.fs.length + s.size) := by show _ < _; rw [HN.out]; exact hbig
        have d3 : (4096 : Int) < ((fn : Nat) : Int) + ((s.size : Nat) : Int) := by omega
        have EC : Hid (rfateC r s = 1) := by show _ = _; unfold rfateC; rw [if_neg h64, if_neg (by rw [AF.out]; decide), if_pos HB.out]
        have ET : Hid (rfateT r s = r) := by show _ = _; unfold rfateT; rw [if_neg (by rw [EC.out]; decide)]
        have q0 := (K1.out.1.below (Below.refl _ _)).cell 0 _ rfl
        have q1 := (K1.out.1.below (Below.refl _ _)).cell 1 _ rfl
        have q2 := (K1.out.1.below (Below.refl _ _)).cell 2 _ rfl
        have q3 := (K1.out.1.below (Below.refl _ _)).cell 3 _ rfl
        have lQ := (K1.out.1.below (Below.refl _ _)).lt
        have dd0 := (K1.out.2.1.below (Below.refl _ _)).cell 0 _ rfl
        have dd1 := (K1.out.2.1.below (Below.refl _ _)).cell 1 _ rfl
        have dd2 := (K1.out.2.1.below (Below.refl _ _)).cell 2 _ rfl
        have dd3 := (K1.out.2.1.below (Below.refl _ _)).cell 3 _ rfl
        have ff := (K1.out.2.1.below (Below.refl _ _)).fz
        have lt8 := (K1.out.2.1.below (Below.refl _ _)).lt
        have FN := (show Hid _ from rf_fin0 (C0 := C) (RV.out.below (below_trans KB.out (Below.refl _ _))) HQ.out (P := Q + 1) (by omega) lt8 (fun g hg => by have := CQ.out g hg; omega) (fun g hg => .inl hg) (below_trans KB.out (Below.refl _ _)) (K1.out.2.1.below (Below.refl _ _)))
        go_wp2_with fail
        exact ret_blk_tmp rfl rfl (Q + 1) _ [.int .i64 ((r.now : Nat) : Int), .slice aa an ac, .slice fa fn fc, .slice ma mn mc] _ rfl FN.out.1 Try.underlying34 rfl (by kernel_rfl) ⟨_, by rw [EC.out]; rfl, by rw [ET.out]; exact FN.out.2⟩
      have d3 : ¬ (4096 : Int) < ((fn : Nat) : Int) + ((s.size : Nat) : Int) := by omega
      have q2 := K1.out.1.cell 2 _ rfl
      have lQ := K1.out.1.lt
      go_wp2_with fail
      clear q2 lQ
      go_loopw [8, 7] (fun vk vl wr => ∃ k : Nat, vk = .int .i64 (k : Int) ∧ k ≤ fn ∧ Hid (RowV 5 w1.heap.size wr vl ((r.fs.take k).map bv) ∧ Below w1.heap.size w1 wr)) (fun vk _ _ => fn - (intOf vk).toNat)
      case atStart => exact ⟨0, rfl, by omega, RowV.nil _ _ _, Below.refl _ _⟩
      case round =>
        obtain ⟨k, rfl, hk, OW⟩ := hrel
        have q2 := (K1.out.1.below OW.out.2).cell 2 _ rfl
        have lQ := (K1.out.1.below OW.out.2).lt
        have bsz : w1.heap.size ≤ wr.heap.size := OW.out.2.size
        by_cases hlt : (k : Int) < (fn : Int)
        · obtain ⟨x, hx⟩ : ∃ x, r.fs[k]? = some x := ⟨r.fs[k]'(by rw [HN.out]; omega), List.getElem?_eq_getElem _⟩
          obtain ⟨g, o, rfl, lg, y0⟩ := rd_at (Rd.later RV.out.fts (below_trans KB.out OW.out.2)) (i := k) (u := bv x) (by rw [List.getElem?_map, hx]; rfl)
          have TS : Hid ((r.fs.take (k + 1)).map bv = (r.fs.take k).map bv ++ [bv x]) := by show _ = _; rw [List.take_add_one, hx]; simp
          have hkN : k < fn := by omega
          have HK : Hid (((r.fs.take k).map bv).length = k) := by show _ = _; rw [List.length_map, List.length_take, HN.out]; omega
          have l1 : ((r.fs.take k).map bv).length + 1 ≤ maxLen := by rw [HK.out]; unfold maxLen; omega
          have l2 : (((r.fs.take k).map bv).length + 1) * 1 ≤ 140737488355328 := by rw [HK.out]; omega
          have O1 := OW.out.1
          obtain ⟨xs, hxs⟩ : ∃ xs, (r.fs.take k).map bv = xs := ⟨_, rfl⟩
          rw [hxs] at O1 l1 l2 TS
          have OB : Hid (Below w1.heap.size w1 wr) := OW.out.2
          have OR : Hid (RowV 5 w1.heap.size wr u7 xs) := O1
          unfold bv at y0
          clear hx O1 hxs HK OW
          go_wp2_with (at_builtin; refine wpList_pushV rfl (.tmp 45) (.tmp 51) 31 rfl 5 i0 (.int .u8 0) 1 underB hi0 hz0 hz1 hz2 rfl w1.heap.size _ xs (bv x) rfl rfl OR.out bsz rfl l1 l2 ?_; intro v7 w7 o7 gr7)
          have F7 : Hid (RowV 5 w1.heap.size w7 v7 ((r.fs.take (k + 1)).map bv) ∧ Below w1.heap.size w1 w7) := ⟨by rw [TS.out]; exact o7, below_grown OB.out OR.out (Nat.le_refl _) bsz gr7⟩
          clear o7 gr7 OR OB TS
          go_roundw
          case rel => exact ⟨k + 1, by go_num, by omega, F7⟩
          case measure => simp [intOf]; omega
        · obtain rfl : fn = k := by omega
          have OX : Hid (RowV 5 w1.heap.size wr u7 ((r.fs ++ (bytesOf s).take 0).map bv) ∧ Below w1.heap.size w1 wr) := by
            have := OW.out
            rw [List.take_of_length_le (by rw [HN.out]; exact Nat.le_refl _)] at this
            rw [List.take_zero, List.append_nil]; exact this
          clear OW hlt
          go_wp2_with fail
          clear q2 lQ bsz
          go_loopw [9, 7] (fun vk vl wr => ∃ k : Nat, vk = .int .i64 (k : Int) ∧ k ≤ s.size ∧ Hid (RowV 5 w1.heap.size wr vl ((r.fs ++ (bytesOf s).take k).map bv) ∧ Below w1.heap.size w1 wr)) (fun vk _ _ => s.size - (intOf vk).toNat)
          case atStart => exact ⟨0, rfl, by omega, OX⟩
          case round =>
            clear OX
            obtain ⟨k, rfl, hk, OW⟩ := hrel
            have bsz : w1.heap.size ≤ wr.heap.size := OW.out.2.size
            by_cases hlt : (k : Int) < ((s.size : Nat) : Int)
            · obtain ⟨c, hc⟩ : ∃ c, (bytesOf s)[k]? = some c := ⟨(bytesOf s)[k]'(by rw [BL.out]; omega), List.getElem?_eq_getElem _⟩
              have ix := IDX.out k c hc
              have TS : Hid ((r.fs ++ (bytesOf s).take (k + 1)).map bv = (r.fs ++ (bytesOf s).take k).map bv ++ [bv c]) := by show _ = _; rw [List.take_add_one, hc]; simp
              have HK : Hid (((r.fs ++ (bytesOf s).take k).map bv).length = fn + k) := by show _ = _; rw [List.length_map, List.length_append, List.length_take, HN.out, BL.out]; omega
              have l1 : ((r.fs ++ (bytesOf s).take k).map bv).length + 1 ≤ maxLen := by rw [HK.out]; unfold maxLen; omega
              have l2 : (((r.fs ++ (bytesOf s).take k).map bv).length + 1) * 1 ≤ 140737488355328 := by rw [HK.out]; omega
              have O1 := OW.out.1
              obtain ⟨xs, hxs⟩ : ∃ xs, (r.fs ++ (bytesOf s).take k).map bv = xs := ⟨_, rfl⟩
              rw [hxs] at O1 l1 l2 TS
              have OB : Hid (Below w1.heap.size w1 wr) := OW.out.2
              have OR : Hid (RowV 5 w1.heap.size wr u7 xs) := O1
              clear hc O1 hxs HK OW
              go_wp2_with (at_builtin; refine wpList_pushV rfl (.tmp 59) (.tmp 63) 31 rfl 5 i0 (.int .u8 0) 1 underB hi0 hz0 hz1 hz2 rfl w1.heap.size _ xs (bv c) rfl rfl OR.out bsz rfl l1 l2 ?_; intro v7 w7 o7 gr7)
              have F7 : Hid (RowV 5 w1.heap.size w7 v7 ((r.fs ++ (bytesOf s).take (k + 1)).map bv) ∧ Below w1.heap.size w1 w7) := ⟨by rw [TS.out]; exact o7, below_grown OB.out OR.out (Nat.le_refl _) bsz gr7⟩
              clear o7 gr7 OR OB TS ix
              go_roundw
              case rel => exact ⟨k + 1, by go_num, by omega, F7⟩
              case measure => simp [intOf]; omega
            · have hkS : k = s.size := by omega
              have O1 := OW.out.1
              rw [hkS, List.take_of_length_le (by rw [BL.out]; exact Nat.le_refl _)] at O1
              clear hkS
              obtain ⟨la, ln, lc, el⟩ : ∃ la ln lc, u7 = .slice la ln lc := by obtain ⟨a, c, e, _⟩ := (RowV.rd O1).len; exact ⟨_, _, _, e⟩
              subst el
              have EC : Hid (rfateC r s = 0) := by show _ = _; unfold rfateC; rw [if_neg h64, if_neg (by rw [AF.out]; decide), if_neg (by rw [HN.out]; exact hbig)]
              have ET : Hid (rfateT r s = { r with fs := r.fs ++ bytesOf s }) := by show _ = _; unfold rfateT; rw [if_pos EC.out]
              have s1 := setCell_grown wr Q 2 (.slice la ln lc)
              have B1 := below_trans KB.out OW.out.2
              have hv := (RV.out.below B1).kp (Kp.of_grown s1) (fun g hg e => by injection e with e; have := CQ.out g hg; omega)
              have lge : ∀ g, (Value.slice la ln lc).ownBlock = some g → Q + 2 ≤ g := fun g e => by have := O1.block_ge e; have := K1.out.2.2; omega
              have R2 : Hid (RefV (fun g => C g ∨ (Value.slice la ln lc).ownBlock = some g) (wr.setCell ⟨Q, 2, none⟩ (.slice la ln lc)) { r with fs := r.fs ++ bytesOf s } aa an ac la ln lc ma mn mc) := ⟨hv.acc, RowV.rd (RowV.kept O1 s1 (fun g hg e => by injection e with e; have := lge g hg; omega)), hv.mss, fun g e => .inl (hv.ca g e), fun g e => .inr e, fun g e => .inl (hv.cm g e), fun x hx => (hv.ba x hx).mono (fun _ h => .inl h), fun x hx => (hv.bm x hx).mono (fun _ h => .inl h), fun g hg => by
                rcases hg with hg | hg
                · exact hv.c g hg
                · exact Nat.lt_of_lt_of_le (O1.block_lt hg) s1.size⟩
              have KQ : Hid (Blk Q 34 [.int .i64 ((r.now : Nat) : Int), .slice aa an ac, .slice la ln lc, .slice ma mn mc] (wr.setCell ⟨Q, 2, none⟩ (.slice la ln lc)) ∧ Blk (Q + 1) 34 [.int .i64 0, .slice none 0 0, .slice none 0 0, .slice none 0 0] (wr.setCell ⟨Q, 2, none⟩ (.slice la ln lc)) ∧ Below w.heap.size w (wr.setCell ⟨Q, 2, none⟩ (.slice la ln lc))) := ⟨(K1.out.1.below OW.out.2).set (i := 2) _, (K1.out.2.1.below OW.out.2).grown s1 (fun e => by injection e with e; omega), below_row B1 s1 (by have := HQ.out; omega)⟩
              have LG : Hid (∀ g, (Value.slice la ln lc).ownBlock = some g → Q + 2 ≤ g) := lge
              have q2 := (K1.out.1.below OW.out.2).cell 2 _ rfl
              have lQ := (K1.out.1.below OW.out.2).lt
              have fQ := (K1.out.1.below OW.out.2).fz 2
              clear hv s1 B1 lge O1 OW
              go_upto_region 22 with fail
              clear q2 lQ fQ
              generalize wr.setCell ⟨Q, 2, none⟩ (.slice la ln lc) = w2 at *
              have q0 := KQ.out.1.cell 0 _ rfl
              have q1 := KQ.out.1.cell 1 _ rfl
              have q2 := KQ.out.1.cell 2 _ rfl
              have q3 := KQ.out.1.cell 3 _ rfl
              have lQ := KQ.out.1.lt
              have dd0 := KQ.out.2.1.cell 0 _ rfl
              have dd1 := KQ.out.2.1.cell 1 _ rfl
              have dd2 := KQ.out.2.1.cell 2 _ rfl
              have dd3 := KQ.out.2.1.cell 3 _ rfl
              have ff := KQ.out.2.1.fz
              have lt8 := KQ.out.2.1.lt
              have FN := (show Hid _ from rf_fin0 (C0 := C) R2.out HQ.out (P := Q + 1) (by omega) lt8 (fun g hg => by
                rcases hg with hg | hg
                · have := CQ.out g hg; omega
                · have := LG.out g hg; omega) (fun g hg => by
                rcases hg with hg | hg
                · exact .inl hg
                · have := LG.out g hg; exact .inr (by omega)) KQ.out.2.2 KQ.out.2.1)
              go_wp2_with fail
              exact ret_blk_tmp rfl rfl (Q + 1) _ [.int .i64 ((r.now : Nat) : Int), .slice aa an ac, .slice la ln lc, .slice ma mn mc] _ rfl FN.out.1 Try.underlying34 rfl (by kernel_rfl) ⟨_, by rw [EC.out]; rfl, by rw [ET.out]; exact FN.out.2⟩
end Go.Proofs.Ytcnhcdlbippjoaa
