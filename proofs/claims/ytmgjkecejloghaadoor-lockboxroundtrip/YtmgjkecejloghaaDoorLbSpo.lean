/-
  Ours: LockboxSpoilt, walked.
-/
import Derived.Test.YtmgjkecejloghaaDoorLbPar
import Derived.Test.YtmgjkecejloghaaDoorLbTls
import Derived.Test.YtmgjkecejloghaaDoorLbF3
import Derived.BigGuard
namespace Go.Proofs.YtmgjkecejloghaaDoor
open Go.RowKit LbM LbF CalM
namespace LbF
theorem flds_b : ∀ (ws ns : List Nat), ∀ x ∈ flds ws ns, x < 256
  | [], ns, x, h => by cases ns <;> cases h
  | w :: ws, [], x, h => by cases h
  | w :: ws, n :: ns, x, h => by
    rw [flds] at h
    rcases List.mem_append.1 h with h | h
    · have := dgT_b n w x h; omega
    · exact flds_b ws ns x h
theorem lin_b (k : Nat) (ns : List Nat) : ∀ x ∈ lin k ns, x < 256 := fun x h => by
  unfold lin at h
  rcases List.mem_cons.1 h with rfl | h
  · exact ltr_lt k
  · rcases List.mem_append.1 h with h | h
    · exact flds_b _ _ x h
    · simp at h; omega
theorem dets_b : ∀ (i : Nat) (l : List It), ∀ x ∈ dets i l, x < 256
  | _, [], x, h => by cases h
  | i, y :: l, x, h => by
    rw [dets] at h
    rcases List.mem_append.1 h with h | h
    · exact lin_b _ _ x h
    · exact dets_b (i + 1) l x h
theorem fileOf_b (b : Bt) : ∀ x ∈ fileOf b, x < 256 := fun x h => by
  by_cases hb : b.Has
  · obtain ⟨y, m, k, _, _, e⟩ := fileOf_has hb
    rw [e] at h
    unfold fileB headB at h
    rcases List.mem_append.1 h with h | h
    · rcases List.mem_append.1 h with h | h
      · exact lin_b _ _ x h
      · exact dets_b _ _ x h
    · exact lin_b _ _ x h
  · rw [fileOf_no hb] at h
    cases h
theorem parse_fileOf {b : Bt} (h : b.Has) : parse (fileOf b) = .ok b := by
  obtain ⟨y, m, k, h1, h2, e⟩ := fileOf_has h
  rw [e]
  exact parse_file h h1 h2
theorem det_pos {i c : Nat} {bs : List Nat} (h : rdDet i bs = .error c) : c ≠ 0 := by
  unfold rdDet at h
  split at h
  · split at h
    · injection h with h; omega
    · split at h
      · injection h with h; omega
      · split at h
        · injection h with h; omega
        · cases h
  · injection h with h; omega
theorem dets_pos : ∀ (f i : Nat) (bs : List Nat) (c j : Nat), rdDets f i bs = .error (c, j) → c ≠ 0
  | 0, i, bs, c, j, h => by rw [rdDets] at h; cases h
  | f + 1, i, bs, c, j, h => by
    rw [rdDets] at h
    split at h
    · cases h
    · split at h
      · rename_i e he
        injection h with h
        injection h with h _
        rw [← h]
        exact det_pos he
      · rename_i x r he
        cases hq : rdDets f (i + 1) r with
        | ok q => rw [hq] at h; cases h
        | error q =>
          rw [hq] at h
          simp only [Except.map] at h
          injection h with h
          obtain ⟨q1, q2⟩ := q
          injection h with h1 h2
          rw [← h1]
          exact dets_pos f (i + 1) r q1 q2 hq
theorem trail_pos {l : List It} {bs : List Nat} {c j : Nat} (h : rdTrail l bs = .error (c, j)) : c ≠ 0 := by
  unfold rdTrail at h
  split at h
  · split at h
    · injection h with h; injection h with h _; omega
    · split at h
      · injection h with h; injection h with h _; omega
      · cases h
  · injection h with h; injection h with h _; omega
end LbF
theorem parse_pos {bs : List Nat} {c j : Nat} (h : parse bs = .error (c, j)) : c ≠ 0 := by
  rcases head_cases bs with hq | ⟨d, n, r, hq⟩
  · rw [parse_h hq] at h
    injection h with h; injection h with h _; omega
  · rcases dets_cases r with ⟨ce, ie, h1⟩ | ⟨l, r', h1⟩
    · rw [parse_d hq h1] at h
      injection h with h; injection h with h _
      rw [← h]; exact dets_pos _ _ _ _ _ h1
    · rcases trail_cases l r' with ⟨ce, ie, h2⟩ | h2
      · rw [parse_t hq h1 h2] at h
        injection h with h; injection h with h _
        rw [← h]; exact trail_pos h2
      · rw [parse_y hq h1 h2] at h
        cases h
theorem parse_bad {b : Bt} (h : b.Has) {p x : Nat} (hp : 16 ≤ p) (hl : p < (fileOf b).length) (hx : (fileOf b).getD p 0 ≠ x) : ∃ c i, parse ((fileOf b).set p x) = .error (c, i) ∧ c ≠ 0 := by
  rcases parse_cases ((fileOf b).set p x) with ⟨c, i, e⟩ | ⟨d, n, l, e⟩
  · exact ⟨c, i, e, parse_pos e⟩
  · exfalso
    obtain ⟨hc, y', m', k', ho', _, e'⟩ := parse_ok e
    obtain ⟨y, m, k, ho, _, ef⟩ := fileOf_has h
    rw [ef] at e' hl hx
    have := spoilt h hc ho ho' p x hp e'.symm
    rw [← e'] at this
    apply hx
    rw [← this, List.getD_eq_getElem?_getD, List.getElem?_set_self hl]
    rfl
set_option maxRecDepth 20000 in
set_option maxHeartbeats 16000000 in
theorem spoilt_any (b : Bt) (v : Value) (ap tz : Int) (w : World) (hl : b.its.length ≤ 9223372036854775807) (t0 : 0 ≤ tz) (t1 : tz ≤ 255) (a0 : -9223372036854775808 ≤ ap) (a1 : ap ≤ 9223372036854775807) (hw : LbW w) (hT : TabL w) (hg : w.cell? ⟨0, 0, none⟩ = some (tyV 61)) (h : RdI w v b.its) :
    Calls Tryd.prog 4 #[btV b v, .int .i64 ap, .int .u8 tz] w fun e w' => e = .returned (.bool true) ∧ Below w.heap.size w w' := by
  have W0 : Hid (Blk w.heap.size 24 (btL b v) (w.alloc (.cells #[.int .i64 b.day, .int .i64 b.num, v] 24)) ∧ Below w.heap.size w (w.alloc (.cells #[.int .i64 b.day, .int .i64 b.num, v] 24))) := ⟨Blk.new 24 (btL b v) w, below_alloc w _⟩
  have HW : Hid (LbW w ∧ TabL w ∧ w.cell? ⟨0, 0, none⟩ = some (tyV 61)) := ⟨hw, hT, hg⟩
  have R0 : Hid (∀ w', Below w.heap.size w w' → RdI w' v b.its) := fun w' q => h.later q
  obtain ⟨x, rfl⟩ : ∃ x : Nat, tz = (x : Int) := ⟨tz.toNat, by omega⟩
  obtain ⟨ao, cap, rfl⟩ := h.len
  obtain ⟨L, hL⟩ : ∃ L, b.its.length = L := ⟨_, rfl⟩
  have HL : Hid (b.its.length = L) := hL
  rw [hL] at hl
  simp only [hL] at W0 R0 ⊢
  clear h hw hT hg hL
  go_enter Tryd.func4, Tryd.ntmps4
  go_upto_region 1 with fail
  generalize w.alloc (.cells #[.int .i64 b.day, .int .i64 b.num, .slice ao L cap] 24) = w1 at *
  have c2 := W0.out.1.cell 2 _ rfl
  by_cases hbig : 10010 < (L : Int)
  · go_wp2_with fail
    go_ret
    exact ⟨rfl, W0.out.2⟩
  have hl2 : b.its.length ≤ 10010 := by rw [HL.out]; omega
  have FU : Hid (∀ w' v', Below w.heap.size w w' → RdI w' v' b.its → Calls Tryd.prog 8 #[btV b v'] w' (FmtU b w')) := fun w' v' q1 q3 => format_u b (by omega) _ w' (HW.out.1.later q1) q3
  have OW : Hid (∀ w' v', RdI w' v' b.its → Calls Tryd.prog 7 #[btV b v'] w' (OwnAns b w')) := fun w' v' q3 => own_at b (by omega) _ w' q3
  have HS : Hid (∀ w' v', RdI w' v' b.its → Calls Tryd.prog 16 #[btV b v'] w' fun e w2 => e = .returned (.bool (decide b.Has)) ∧ Below w'.heap.size w' w2) := fun w' v' q3 => rhas_at b v' w' (by omega) q3
  have CP : Hid (∀ w' v' bs, bs.length ≤ 300000 → RdB w' v' bs → Calls Tryd.prog 18 #[v'] w' (NewS w' bs)) := fun w' v' bs q1 q2 => copyBytes_at bs v' w' (by omega) q2
  have PA : Hid (∀ w' v' bs, Below w.heap.size w w' → bs.length ≤ 300000 → RdB w' v' bs → (∀ z ∈ bs, z < 256) → Calls Tryd.prog 17 #[v'] w' (ParAns bs w')) := fun w' v' bs q q1 q2 q3 => parse_at bs v' w' (HW.out.1.fw.later q) (HW.out.1.tp.below q) (tabA_bel HW.out.1.ta q) (tabL_bel HW.out.2.1 q) (cell_up2 q HW.out.2.2) (by omega) q2 q3
  have FL := fileOf_len b
  have FB8 : Hid (∀ z ∈ fileOf b, z < 256) := fileOf_b b
  have PF : Hid (b.Has → parse (fileOf b) = .ok b) := parse_fileOf
  have PB : Hid (b.Has → ∀ p x, 16 ≤ p → p < (fileOf b).length → (fileOf b).getD p 0 ≠ x → ∃ c i, parse ((fileOf b).set p x) = .error (c, i) ∧ c ≠ 0) := fun hb p x => parse_bad hb
  unfold FmtU at FU
  generalize fileOf b = FB at *
  obtain ⟨N, hN⟩ : ∃ N, FB.length = N := ⟨_, rfl⟩
  rw [hN] at FL
  simp only [hN] at FU
  have HN : Hid (FB.length = N) := hN
  clear hN hl2
  go_wp2_with (refine step_load rfl 24 _ rfl w.heap.size 0 rfl (btL b (.slice ao L cap)) _ (Blk.all W0.out.1) Tryd.underlying24 rfl (sizeBt _ _) ?_)
  refine (OW.out w1 _ (R0.out _ W0.out.2)).mono ?_
  rintro e w2 ⟨ga, gn, gc, rfl, r2, b2⟩
  have S2 : Hid (Blk w.heap.size 24 (btL b (.slice ao L cap)) w2 ∧ Below w.heap.size w w2 ∧ RdI w2 (.slice ga gn gc) b.its) := ⟨W0.out.1.below b2, below_trans W0.out.2 b2, RowI.rd r2⟩
  clear r2 b2 W0 c2
  go_wp2_with fail
  refine (FU.out w2 _ S2.out.2.1 S2.out.2.2).mono ?_
  rintro e w3 ⟨fa, fn, fc, rfl, r3, rfl, b3⟩
  have S3 : Hid (Blk w.heap.size 24 (btL b (.slice ao L cap)) w3 ∧ Below w.heap.size w w3 ∧ RowB 5 w2.heap.size w3 (.slice fa fn fc) FB ∧ w.heap.size < w2.heap.size) := ⟨S2.out.1.below b3, below_trans S2.out.2.1 b3, r3, S2.out.1.lt⟩
  clear r3 b3 S2
  by_cases hb : b.Has
  · rw [decide_eq_true hb] at HS ⊢
    have HB : Hid b.Has := hb
    clear hb
    go_wp2_with (refine step_load rfl 24 _ rfl w.heap.size 0 rfl (btL b (.slice ao L cap)) _ (Blk.all S3.out.1) Tryd.underlying24 rfl (sizeBt _ _) ?_)
    refine (HS.out w3 _ (R0.out _ S3.out.2.1)).mono ?_
    rintro e w4 ⟨rfl, b4⟩
    have S4 : Hid (Below w.heap.size w w4 ∧ RowB 5 w2.heap.size w4 (.slice fa fn fc) FB ∧ w.heap.size < w2.heap.size) := ⟨below_trans S3.out.2.1 b4, RowV.later S3.out.2.2.1 b4, S3.out.2.2.2⟩
    clear b4 S3
    by_cases h16 : ap < 16
    · go_wp2_with fail
      go_ret
      exact ⟨rfl, S4.out.1⟩
    by_cases hge : (fn : Int) ≤ ap
    · go_wp2_with fail
      go_ret
      exact ⟨rfl, S4.out.1⟩
    obtain ⟨p, rfl⟩ : ∃ p : Nat, ap = (p : Int) := ⟨ap.toNat, by omega⟩
    have hpl : p < fn := by omega
    have hp16 : 16 ≤ p := by omega
    have h1 := RowB.own S4.out.2.1 (by rw [HN.out]; omega)
    rw [HN.out] at h1
    obtain ⟨g, fcap, ef, hcp, hbg, -, HX, hfz⟩ := h1
    injection ef with e1 e2 e3
    subst e1 e3
    clear e2
    obtain ⟨x0, hx0⟩ : ∃ x0, FB.getD p 0 = x0 := ⟨_, rfl⟩
    have cg : w4.cell? ⟨g, p, none⟩ = some (.int .u8 (x0 : Int)) := by rw [← hx0]; exact HX p hpl
    have fz : w4.frozen? ⟨g, p, none⟩ = false := hfz p
    have T4 : Hid (Below w.heap.size w w4 ∧ RowB 5 w2.heap.size w4 (.slice (some ⟨g, 0, none⟩) fn fc) FB ∧ w.heap.size < w2.heap.size ∧ w2.heap.size ≤ g) := ⟨S4.out.1, S4.out.2.1, S4.out.2.2, hbg⟩
    have HX0 : Hid (FB.getD p 0 = x0) := hx0
    clear HX hfz hbg hcp S4 hx0 cg fz
    go_wp2_with fail
    refine (CP.out w4 _ FB (by rw [HN.out]; omega) (RowV.rd T4.out.2.1)).mono ?_
    rintro e w5 ⟨ca, cn, cc, rfl, r5, b5⟩
    have T5 : Hid (Below w.heap.size w w5 ∧ RowB 5 w2.heap.size w5 (.slice (some ⟨g, 0, none⟩) fn fc) FB ∧ RdB w5 (.slice ca cn cc) FB) := ⟨below_trans T4.out.1 b5, RowV.later T4.out.2.1 b5, RowV.rd r5⟩
    clear r5 b5
    go_wp2_with fail
    refine (PA.out w5 _ FB T5.out.1 (by rw [HN.out]; omega) T5.out.2.2 FB8.out).mono ?_
    rintro e w6 ⟨b6, hm⟩
    rw [PF.out HB.out] at hm
    obtain ⟨pa, pn, pc, rfl, -⟩ := hm
    have b7 : Below w6.heap.size w6 (w6.alloc (.cells #[.int .i64 b.day, .int .i64 b.num, .slice pa pn pc] 24)) := below_alloc _ _
    have T7 : Hid (Below w.heap.size w (w6.alloc (.cells #[.int .i64 b.day, .int .i64 b.num, .slice pa pn pc] 24)) ∧ RowB 5 w2.heap.size (w6.alloc (.cells #[.int .i64 b.day, .int .i64 b.num, .slice pa pn pc] 24)) (.slice (some ⟨g, 0, none⟩) fn fc) FB) := ⟨below_trans (below_trans T5.out.1 b6) b7, RowV.later (RowV.later T5.out.2.1 b6) b7⟩
    clear b6 b7 T5
    go_upto_region 9 with fail
    generalize w6.alloc (.cells #[.int .i64 b.day, .int .i64 b.num, .slice pa pn pc] 24) = w7 at *
    have h1 := RowB.own T7.out.2 (by rw [HN.out]; omega)
    rw [HN.out] at h1
    obtain ⟨g', fcap', ef, -, -, -, HX, hfz⟩ := h1
    injection ef with e1 e2 e3
    injection e1 with e1
    injection e1 with e1
    subst e1 e3
    clear e2
    have cg : w7.cell? ⟨g, p, none⟩ = some (.int .u8 (x0 : Int)) := by rw [← HX0.out]; exact HX p hpl
    have fz : w7.frozen? ⟨g, p, none⟩ = false := hfz p
    clear HX hfz
    by_cases hxx : x0 = x
    · have e0 : ((x0 : Int) == (x : Int)) = true := by rw [hxx]; simp
      clear hxx
      go_wp2_with fail
      go_ret
      exact ⟨rfl, T7.out.1⟩
    · have e0 : ((x0 : Int) == (x : Int)) = false := by simp; omega
      obtain ⟨ce, ie, he, hc0⟩ := PB.out HB.out p x hp16 (by rw [HN.out]; exact hpl) (by rw [HX0.out]; exact hxx)
      obtain ⟨P8, G8⟩ := RowB.put T7.out.2 p x HN.out
      have T8 : Hid (Below w.heap.size w (w7.setCell ⟨g, p, none⟩ (.int .u8 (x : Int))) ∧ RdB (w7.setCell ⟨g, p, none⟩ (.int .u8 (x : Int))) (.slice (some ⟨g, 0, none⟩) fn fc) (FB.set p x)) := ⟨below_own T7.out.1 (by have := T4.out.2.2; omega), RowV.rd P8⟩
      have HE : Hid (parse (FB.set p x) = .error (ce, ie)) := he
      have e1 : ((ce : Int) != 0) = true := by simp; omega
      have X256 : Hid (x < 256) := by show _ < _; omega
      clear he hc0 P8 G8 hxx T7 T4
      go_upto_region 14 with fail
      generalize w7.setCell ⟨g, p, none⟩ (.int .u8 (x : Int)) = w8 at *
      clear cg fz
      go_wp2_with fail
      refine (PA.out w8 _ (FB.set p x) T8.out.1 (by rw [List.length_set, HN.out]; omega) T8.out.2 (fun z hz => by rcases List.mem_or_eq_of_mem_set hz with q | q; exact FB8.out z q; rw [q]; exact X256.out)).mono ?_
      rintro e w9 ⟨b9, hm⟩
      rw [HE.out] at hm
      subst hm
      have b10 : Below w9.heap.size w9 (w9.alloc (.cells #[.int .i64 0, .int .i64 0, .slice none 0 0] 24)) := below_alloc _ _
      have T9 : Hid (Below w.heap.size w (w9.alloc (.cells #[.int .i64 0, .int .i64 0, .slice none 0 0] 24))) := below_trans (below_trans T8.out.1 b9) b10
      have cz := (Blk.new 24 bZ w9).cell 2 _ rfl
      clear b9 b10 T8
      go_wp2_with fail
      go_ret
      exact ⟨rfl, T9.out⟩
  · rw [decide_eq_false hb] at HS ⊢
    clear hb
    go_wp2_with (refine step_load rfl 24 _ rfl w.heap.size 0 rfl (btL b (.slice ao L cap)) _ (Blk.all S3.out.1) Tryd.underlying24 rfl (sizeBt _ _) ?_)
    refine (HS.out w3 _ (R0.out _ S3.out.2.1)).mono ?_
    rintro e w4 ⟨rfl, b4⟩
    have S4 : Hid (Below w.heap.size w w4) := below_trans S3.out.2.1 b4
    clear b4 S3
    go_wp2_with fail
    go_ret
    exact ⟨rfl, S4.out⟩
end Go.Proofs.YtmgjkecejloghaaDoor
