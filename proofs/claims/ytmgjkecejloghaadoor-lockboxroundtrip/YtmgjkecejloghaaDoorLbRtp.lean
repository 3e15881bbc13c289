/-
  Ours: LockboxRoundTrip, walked (gen_lbrtp.py).
-/
import Derived.Test.YtmgjkecejloghaaDoorLbSpo
namespace Go.Proofs.YtmgjkecejloghaaDoor
open Go.RowKit LbM LbF CalM
/-- The batch of one payment. -/
def oneB : Bt := ⟨738000, 1, [⟨7, 5⟩]⟩
theorem oneB_has : oneB.Has := by decide
set_option maxRecDepth 20000 in
set_option maxHeartbeats 16000000 in
theorem roundTrip_any (b : Bt) (v vf : Value) (bs : List Nat) (w : World) (hl : b.its.length ≤ 9223372036854775807) (hfl : bs.length ≤ 9223372036854775807) (hw : LbW w) (hT : TabL w) (hg : w.cell? ⟨0, 0, none⟩ = some (tyV 61)) (h : RdI w v b.its) (hf : RdB w vf bs) (h8 : ∀ x ∈ bs, x < 256) :
    Calls Tryd.prog 5 #[btV b v, vf] w fun e w' => e = .returned (.bool true) ∧ Below w.heap.size w w' := by
  have W0 : Hid (Blk w.heap.size 24 (btL b v) (w.alloc (.cells #[.int .i64 b.day, .int .i64 b.num, v] 24)) ∧ Below w.heap.size w (w.alloc (.cells #[.int .i64 b.day, .int .i64 b.num, v] 24))) := ⟨Blk.new 24 (btL b v) w, below_alloc w _⟩
  have HW : Hid (LbW w ∧ TabL w ∧ w.cell? ⟨0, 0, none⟩ = some (tyV 61)) := ⟨hw, hT, hg⟩
  have R0 : Hid (∀ w', Below w.heap.size w w' → RdI w' v b.its) := fun w' q => h.later q
  have H8 : Hid (∀ x ∈ bs, x < 256) := h8
  obtain ⟨fa, fc, rfl, -, -⟩ := hf.len
  rw [List.length_map] at hf ⊢
  have RF : Hid (RdB w (.slice fa bs.length fc) bs) := hf
  obtain ⟨ao, cap, rfl⟩ := h.len
  obtain ⟨L, hL⟩ : ∃ L, b.its.length = L := ⟨_, rfl⟩
  obtain ⟨NF, hNF⟩ : ∃ NF, bs.length = NF := ⟨_, rfl⟩
  have HL : Hid (b.its.length = L ∧ bs.length = NF) := ⟨hL, hNF⟩
  rw [hL] at hl
  rw [hNF] at hfl RF ⊢
  simp only [hL] at W0 R0 ⊢
  clear h hw hT hg hL hNF hf h8
  have FG : Hid (∀ (b : Bt) w' v', Below w.heap.size w w' → b.its.length ≤ 1000000000 → RdI w' v' b.its → Calls Tryd.prog 8 #[btV b v'] w' (FmtU b w')) := fun b w' v' q1 q2 q3 => format_u b q2 _ w' (HW.out.1.later q1) q3
  have OW : Hid (∀ (b : Bt) w' v', b.its.length ≤ 1000000000 → RdI w' v' b.its → Calls Tryd.prog 7 #[btV b v'] w' (OwnAns b w')) := fun b w' v' q2 q3 => own_at b q2 _ w' q3
  have CP : Hid (∀ w' v' bs, bs.length ≤ 524288 → RdB w' v' bs → Calls Tryd.prog 18 #[v'] w' (NewS w' bs)) := fun w' v' bs q1 q2 => copyBytes_at bs v' w' (by omega) q2
  have PA : Hid (∀ w' v' bs, Below w.heap.size w w' → bs.length ≤ 1000000 → RdB w' v' bs → (∀ z ∈ bs, z < 256) → Calls Tryd.prog 17 #[v'] w' (ParAns bs w')) := fun w' v' bs q q1 q2 q3 => parse_at bs v' w' (HW.out.1.fw.later q) (HW.out.1.tp.below q) (tabA_bel HW.out.1.ta q) (tabL_bel HW.out.2.1 q) (cell_up2 q HW.out.2.2) q1 q2 q3
  have SBT : Hid (∀ (b : Bt) w' v1 v2, b.its.length ≤ 1000000000 → RdI w' v1 b.its → RdI w' v2 b.its → Calls Tryd.prog 11 #[btV b v1, btV b v2] w' fun e w2 => e = .returned (.bool true) ∧ Below w'.heap.size w' w2) := fun b w' v1 v2 q q1 q2 => sameBatch_yes b v1 v2 w' q q1 q2
  go_enter Tryd.func5, Tryd.ntmps5
  go_upto_region 1 with fail
  generalize w.alloc (.cells #[.int .i64 b.day, .int .i64 b.num, .slice ao L cap] 24) = w1 at *
  have bA : Below w1.heap.size w1 (w1.alloc (.cells #[.int .i64 7, .int .i64 5] 43)) := below_alloc _ _
  have bB : Below w1.heap.size w1 ((w1.alloc (.cells #[.int .i64 7, .int .i64 5] 43)).alloc (.cells #[.int .i64 738000, .int .i64 1, .slice (some ⟨w1.heap.size, 0, none⟩) 1 1] 24)) := below_trans bA (below_alloc _ _)
  have nA : Blk w1.heap.size 43 [.int .i64 7, .int .i64 5] ((w1.alloc (.cells #[.int .i64 7, .int .i64 5] 43)).alloc (.cells #[.int .i64 738000, .int .i64 1, .slice (some ⟨w1.heap.size, 0, none⟩) 1 1] 24)) := (Blk.new 43 [.int .i64 7, .int .i64 5] w1).below (below_alloc _ _)
  have nB : Blk (w1.heap.size + 1) 24 [.int .i64 738000, .int .i64 1, .slice (some ⟨w1.heap.size, 0, none⟩) 1 1] ((w1.alloc (.cells #[.int .i64 7, .int .i64 5] 43)).alloc (.cells #[.int .i64 738000, .int .i64 1, .slice (some ⟨w1.heap.size, 0, none⟩) 1 1] 24)) := by
    have := Blk.new 24 [.int .i64 738000, .int .i64 1, .slice (some ⟨w1.heap.size, 0, none⟩) 1 1] (w1.alloc (.cells #[.int .i64 7, .int .i64 5] 43))
    rwa [show (w1.alloc (.cells #[.int .i64 7, .int .i64 5] 43)).heap.size = w1.heap.size + 1 by simp] at this
  have W2 : Hid (Blk w.heap.size 24 (btL b (.slice ao L cap)) ((w1.alloc (.cells #[.int .i64 7, .int .i64 5] 43)).alloc (.cells #[.int .i64 738000, .int .i64 1, .slice (some ⟨w1.heap.size, 0, none⟩) 1 1] 24)) ∧ Below w.heap.size w ((w1.alloc (.cells #[.int .i64 7, .int .i64 5] 43)).alloc (.cells #[.int .i64 738000, .int .i64 1, .slice (some ⟨w1.heap.size, 0, none⟩) 1 1] 24)) ∧ Blk (w1.heap.size + 1) 24 [.int .i64 738000, .int .i64 1, .slice (some ⟨w1.heap.size, 0, none⟩) 1 1] ((w1.alloc (.cells #[.int .i64 7, .int .i64 5] 43)).alloc (.cells #[.int .i64 738000, .int .i64 1, .slice (some ⟨w1.heap.size, 0, none⟩) 1 1] 24)) ∧ RdI ((w1.alloc (.cells #[.int .i64 7, .int .i64 5] 43)).alloc (.cells #[.int .i64 738000, .int .i64 1, .slice (some ⟨w1.heap.size, 0, none⟩) 1 1] 24)) (.slice (some ⟨w1.heap.size, 0, none⟩) 1 1) oneB.its) := ⟨W0.out.1.below bB, below_trans W0.out.2 bB, nB, some ⟨w1.heap.size, 0, none⟩, 1, rfl, Nat.le_refl _, (fun e => by cases e), fun i x hi => by
    have hi0 : i = 0 := by have := (List.getElem?_eq_some_iff.1 hi).1; simp [oneB] at this; exact this
    subst hi0
    have hx : x = ⟨7, 5⟩ := by simp [oneB] at hi; exact hi.symm
    subst hx
    refine ⟨w1.heap.size, 0, rfl, nA.lt, fun j u hj => ?_⟩
    have := nA.cell j u hj
    simpa using this⟩
  clear bA bB nA nB W0
  go_upto_region 2 with fail
  generalize (w1.alloc (.cells #[.int .i64 7, .int .i64 5] 43)).alloc (.cells #[.int .i64 738000, .int .i64 1, .slice (some ⟨w1.heap.size, 0, none⟩) 1 1] 24) = w2 at *
  go_wp2_with (refine step_load rfl 24 _ rfl (w1.heap.size + 1) 0 rfl [.int .i64 738000, .int .i64 1, .slice (some ⟨w1.heap.size, 0, none⟩) 1 1] _ (Blk.all W2.out.2.2.1) Tryd.underlying24 rfl (sizeB3 _ _ _) ?_)
  refine (OW.out oneB w2 _ (by decide) W2.out.2.2.2).mono ?_
  rintro e w3 ⟨ga, gn, gc, rfl, r3, b3⟩
  have W3 : Hid (Blk w.heap.size 24 (btL b (.slice ao L cap)) w3 ∧ Below w.heap.size w w3 ∧ Blk (w1.heap.size + 1) 24 [.int .i64 738000, .int .i64 1, .slice (some ⟨w1.heap.size, 0, none⟩) 1 1] w3 ∧ RdI w3 (.slice (some ⟨w1.heap.size, 0, none⟩) 1 1) oneB.its ∧ RdI w3 (.slice ga gn gc) oneB.its) := ⟨W2.out.1.below b3, below_trans W2.out.2.1 b3, W2.out.2.2.1.below b3, W2.out.2.2.2.later b3, RowI.rd r3⟩
  clear r3 b3 W2
  go_wp2_with fail
  refine (FG.out oneB w3 _ W3.out.2.1 (by decide) W3.out.2.2.2.2).mono ?_
  rintro e w4 ⟨xa, xn, xc, rfl, r4, -, b4⟩
  rw [decide_eq_true oneB_has]
  have W4 : Hid (Blk w.heap.size 24 (btL b (.slice ao L cap)) w4 ∧ Below w.heap.size w w4 ∧ Blk (w1.heap.size + 1) 24 [.int .i64 738000, .int .i64 1, .slice (some ⟨w1.heap.size, 0, none⟩) 1 1] w4 ∧ RdI w4 (.slice (some ⟨w1.heap.size, 0, none⟩) 1 1) oneB.its ∧ RdB w4 (.slice xa xn xc) (fileOf oneB)) := ⟨W3.out.1.below b4, below_trans W3.out.2.1 b4, W3.out.2.2.1.below b4, W3.out.2.2.2.1.later b4, RowV.rd r4⟩
  clear r4 b4 W3
  go_wp2_with fail
  refine (PA.out w4 _ (fileOf oneB) W4.out.2.1 (Nat.le_trans (fileOf_len oneB) (by decide)) W4.out.2.2.2.2 (fileOf_b oneB)).mono ?_
  rintro e w5 ⟨b5, hm⟩
  rw [parse_fileOf oneB_has] at hm
  obtain ⟨qa, qn, qc, he, ri⟩ := hm
  replace he : e = .returned (.tuple #[.agg #[.int .i64 738000, .int .i64 1, .slice qa qn qc], .int .i64 0, .int .i64 0]) := he
  subst he
  obtain ⟨P, hP⟩ : ∃ P, w5.heap.size = P := ⟨_, rfl⟩
  have b6 : Below w4.heap.size w4 (w5.alloc (.cells #[.int .i64 738000, .int .i64 1, .slice qa qn qc] 24)) := below_trans b5 (below_alloc _ _)
  have nP : Blk P 24 [.int .i64 738000, .int .i64 1, .slice qa qn qc] (w5.alloc (.cells #[.int .i64 738000, .int .i64 1, .slice qa qn qc] 24)) := by rw [← hP]; exact Blk.new 24 [.int .i64 738000, .int .i64 1, .slice qa qn qc] w5
  have W6 : Hid (Blk w.heap.size 24 (btL b (.slice ao L cap)) (w5.alloc (.cells #[.int .i64 738000, .int .i64 1, .slice qa qn qc] 24)) ∧ Below w.heap.size w (w5.alloc (.cells #[.int .i64 738000, .int .i64 1, .slice qa qn qc] 24)) ∧ Blk (w1.heap.size + 1) 24 [.int .i64 738000, .int .i64 1, .slice (some ⟨w1.heap.size, 0, none⟩) 1 1] (w5.alloc (.cells #[.int .i64 738000, .int .i64 1, .slice qa qn qc] 24)) ∧ RdI (w5.alloc (.cells #[.int .i64 738000, .int .i64 1, .slice qa qn qc] 24)) (.slice (some ⟨w1.heap.size, 0, none⟩) 1 1) oneB.its ∧ RdI (w5.alloc (.cells #[.int .i64 738000, .int .i64 1, .slice qa qn qc] 24)) (.slice qa qn qc) oneB.its ∧ Blk P 24 [.int .i64 738000, .int .i64 1, .slice qa qn qc] (w5.alloc (.cells #[.int .i64 738000, .int .i64 1, .slice qa qn qc] 24))) := ⟨W4.out.1.below b6, below_trans W4.out.2.1 b6, W4.out.2.2.1.below b6, W4.out.2.2.2.1.later b6, (RowI.rd ri).later (below_alloc _ _), nP⟩
  have HP : Hid (w.heap.size ≤ P) := by show _ ≤ _; rw [← hP]; exact Nat.le_trans W4.out.2.1.size b5.size
  have HPL : Hid (w.heap.size < P) := by show _ < _; rw [← hP]; exact Nat.lt_of_lt_of_le W4.out.1.lt b5.size
  clear b5 b6 nP ri W4
  go_upto_region 4 with fail
  try simp only [hP]
  generalize w5.alloc (.cells #[.int .i64 738000, .int .i64 1, .slice qa qn qc] 24) = w6 at *
  clear hP
  go_wp2_with (first
    | ((with_reducible refine at_loadG 24 ?_); refine step_loadG (by rfl) 24 _ rfl P 0 rfl [.int .i64 738000, .int .i64 1, .slice qa qn qc] _ (Blk.all W6.out.2.2.2.2.2) Tryd.underlying24 rfl (sizeB3 _ _ _) ?_)
    | ((with_reducible refine at_loadG 24 ?_); refine step_loadG (by rfl) 24 _ rfl (w1.heap.size + 1) 0 rfl [.int .i64 738000, .int .i64 1, .slice (some ⟨w1.heap.size, 0, none⟩) 1 1] _ (Blk.all W6.out.2.2.1) Tryd.underlying24 rfl (sizeB3 _ _ _) ?_))
  refine (SBT.out oneB w6 _ _ (by decide) W6.out.2.2.2.2.1 W6.out.2.2.2.1).mono ?_
  rintro e w7 ⟨rfl, b7⟩
  have W7 : Hid (Blk w.heap.size 24 (btL b (.slice ao L cap)) w7 ∧ Below w.heap.size w w7 ∧ Blk P 24 [.int .i64 738000, .int .i64 1, .slice qa qn qc] w7) := ⟨W6.out.1.below b7, below_trans W6.out.2.1 b7, W6.out.2.2.2.2.2.below b7⟩
  clear b7 W6
  have c2 := W7.out.1.cell 2 _ rfl
  by_cases hbig1 : 524288 < (NF : Int)
  · go_wp2_with fail
    go_ret
    exact ⟨rfl, W7.out.2.1⟩
  have hd1 : decide (524288 < (NF : Int)) = false := decide_eq_false hbig1
  by_cases hbig : 10010 < (L : Int)
  · go_wp2_with fail
    go_ret
    exact ⟨rfl, W7.out.2.1⟩
  have FLE : Hid (bs.length ≤ 524288) := by show _ ≤ _; rw [HL.out.2]; omega
  have LE : Hid (b.its.length ≤ 10010) := by show _ ≤ _; rw [HL.out.1]; omega
  have SB : Hid (∀ w' v1 v2, RdB w' v1 bs → RdB w' v2 bs → Calls Tryd.prog 10 #[v1, v2] w' fun e w2 => e = .returned (.bool true) ∧ Below w'.heap.size w' w2) := fun w' v1 v2 q1 q2 => sameBytes_yes bs v1 v2 w' _ rfl (by have := FLE.out; omega) q1 q2
  go_wp2_with (refine step_load rfl 24 _ rfl w.heap.size 0 rfl (btL b (.slice ao L cap)) _ (Blk.all W7.out.1) Tryd.underlying24 rfl (sizeBt _ _) ?_)
  refine (OW.out b w7 _ (by have := LE.out; omega) (R0.out _ W7.out.2.1)).mono ?_
  rintro e w8 ⟨ha, hn, hc, rfl, r8, b8⟩
  have W8 : Hid (Blk w.heap.size 24 (btL b (.slice ao L cap)) w8 ∧ Below w.heap.size w w8 ∧ Blk P 24 [.int .i64 738000, .int .i64 1, .slice qa qn qc] w8 ∧ RdI w8 (.slice ha hn hc) b.its) := ⟨W7.out.1.below b8, below_trans W7.out.2.1 b8, W7.out.2.2.below b8, RowI.rd r8⟩
  clear r8 b8 W7 c2
  go_wp2_with fail
  refine (FG.out b w8 _ W8.out.2.1 (by have := LE.out; omega) W8.out.2.2.2).mono ?_
  rintro e w9 ⟨za, zn, zc, rfl, r9, -, b9⟩
  have W9 : Hid (Blk w.heap.size 24 (btL b (.slice ao L cap)) w9 ∧ Below w.heap.size w w9 ∧ Blk P 24 [.int .i64 738000, .int .i64 1, .slice qa qn qc] w9 ∧ RdB w9 (.slice za zn zc) (fileOf b)) := ⟨W8.out.1.below b9, below_trans W8.out.2.1 b9, W8.out.2.2.1.below b9, RowV.rd r9⟩
  clear r9 b9 W8
  by_cases hb : b.Has
  · rw [decide_eq_true hb]
    have HB : Hid b.Has := hb
    clear hb
    go_wp2_with fail
    refine (CP.out w9 _ (fileOf b) (Nat.le_trans (fileOf_len b) (by decide)) W9.out.2.2.2).mono ?_
    rintro e wA ⟨ca, cn, cc, rfl, rA, bA⟩
    have WA : Hid (Blk w.heap.size 24 (btL b (.slice ao L cap)) wA ∧ Below w.heap.size w wA ∧ Blk P 24 [.int .i64 738000, .int .i64 1, .slice qa qn qc] wA ∧ RdB wA (.slice ca cn cc) (fileOf b)) := ⟨W9.out.1.below bA, below_trans W9.out.2.1 bA, W9.out.2.2.1.below bA, RowV.rd rA⟩
    clear rA bA W9
    go_wp2_with fail
    refine (PA.out wA _ (fileOf b) WA.out.2.1 (Nat.le_trans (fileOf_len b) (by decide)) WA.out.2.2.2 (fileOf_b b)).mono ?_
    rintro e wB ⟨bB, hm⟩
    rw [parse_fileOf HB.out] at hm
    obtain ⟨pa, pn, pc, rfl, ri⟩ := hm
    have WB : Hid (Blk w.heap.size 24 (btL b (.slice ao L cap)) wB ∧ Below w.heap.size w wB ∧ Blk P 24 [.int .i64 738000, .int .i64 1, .slice qa qn qc] wB ∧ RowI wA.heap.size wB (.slice pa pn pc) b.its ∧ P < wA.heap.size) := ⟨WA.out.1.below bB, below_trans WA.out.2.1 bB, WA.out.2.2.1.below bB, ri, WA.out.2.2.1.lt⟩
    clear bB ri WA
    go_upto_region 11 with (refine step_store rfl 24 _ _ rfl P 0 24 [.int .i64 738000, .int .i64 1, .slice qa qn qc] [.int .i64 b.day, .int .i64 b.num, .slice pa pn pc] rfl rfl WB.out.2.2.1 (Nat.le_refl _) (sizeB3 _ _ _) (oneB3 _ _ _ _ _) ?_; intro wC nbC gC)
    have WC : Hid (Blk w.heap.size 24 (btL b (.slice ao L cap)) wC ∧ Below w.heap.size w wC ∧ Blk P 24 [.int .i64 b.day, .int .i64 b.num, .slice pa pn pc] wC ∧ RdI wC (.slice pa pn pc) b.its) := ⟨WB.out.1.grown gC (fun e => by injection e with e; have := HPL.out; omega), below_row WB.out.2.1 gC HP.out, nbC, RowI.rd (World.ownsRow.kept WB.out.2.2.2.1 gC (by
      have lt := WB.out.2.2.2.2
      cases hv : (Value.slice pa pn pc).ownBlock with
      | none => exact .inl rfl
      | some g => exact .inr (fun e => by have := (World.ownsRow.lt WB.out.2.2.2.1 g hv).1; injection e with e; omega)))⟩
    clear nbC gC WB
    go_wp2_with (first
      | ((with_reducible refine at_loadG 24 ?_); refine step_loadG (by rfl) 24 _ rfl P 0 rfl [.int .i64 b.day, .int .i64 b.num, .slice pa pn pc] _ (Blk.all WC.out.2.2.1) Tryd.underlying24 rfl (sizeB3 _ _ _) ?_)
      | ((with_reducible refine at_loadG 24 ?_); refine step_loadG (by rfl) 24 _ rfl w.heap.size 0 rfl (btL b (.slice ao L cap)) _ (Blk.all WC.out.1) Tryd.underlying24 rfl (sizeBt _ _) ?_))
    refine (SBT.out b wC _ _ (by have := LE.out; omega) WC.out.2.2.2 (R0.out _ WC.out.2.1)).mono ?_
    rintro e wT ⟨rfl, bT⟩
    obtain ⟨q1, hq1⟩ : ∃ q, b.day = q := ⟨_, rfl⟩
    obtain ⟨q2, hq2⟩ : ∃ q, b.num = q := ⟨_, rfl⟩
    have T0 : Hid (Below w.heap.size w wT ∧ Blk P 24 [.int .i64 q1, .int .i64 q2, .slice pa pn pc] wT) := ⟨below_trans WC.out.2.1 bT, by rw [← hq1, ← hq2]; exact WC.out.2.2.1.below bT⟩
    clear bT WC hq1 hq2
    go_wp2_with fail
    refine (CP.out wT _ bs FLE.out (Rd.later RF.out T0.out.1)).mono ?_
    rintro e wU ⟨ca, cn, cc, rfl, rU, bU⟩
    have U0 : Hid (Below w.heap.size w wU ∧ Blk P 24 [.int .i64 q1, .int .i64 q2, .slice pa pn pc] wU ∧ RdB wU (.slice ca cn cc) bs) := ⟨below_trans T0.out.1 bU, T0.out.2.below bU, RowV.rd rU⟩
    clear rU bU T0
    go_wp2_with fail
    refine (PA.out wU _ bs U0.out.1 (by have := FLE.out; omega) U0.out.2.2 H8.out).mono ?_
    rintro e wV ⟨bV, hm⟩
    have V0 : Hid (Below w.heap.size w wV ∧ Blk P 24 [.int .i64 q1, .int .i64 q2, .slice pa pn pc] wV ∧ P < wU.heap.size) := ⟨below_trans U0.out.1 bV, U0.out.2.1.below bV, U0.out.2.1.lt⟩
    clear bV U0
    rcases parse_cases bs with ⟨c, i, hq⟩ | ⟨d, n, l, hq⟩
    · rw [hq] at hm
      subst hm
      have e0 : ((c : Int) != 0) = true := by have := parse_pos hq; simp; omega
      clear hq
      go_upto_region 14 with (refine step_store rfl 24 _ _ rfl P 0 24 [.int .i64 q1, .int .i64 q2, .slice pa pn pc] bZ rfl rfl V0.out.2.1 (Nat.le_refl _) (sizeB3 _ _ _) (oneB3 _ _ _ _ _) ?_; intro wX nbX gX)
      have X0 : Hid (Below w.heap.size w wX) := below_row V0.out.1 gX HP.out
      have cz := nbX.cell 2 _ rfl
      clear gX V0
      go_wp2_with fail
      go_ret
      exact ⟨rfl, X0.out⟩
    · rw [hq] at hm
      obtain ⟨pa2, pn2, pc2, rfl, ri⟩ := hm
      obtain ⟨h2, y2, m2, k2, ho2, hd2, e2⟩ := parse_ok hq
      have F2 : Hid (bs = fileOf ⟨d, n, l⟩) := by
        show _ = _
        obtain ⟨y3, m3, k3, ho3, hd3, e3⟩ := fileOf_has h2
        obtain ⟨rfl, rfl, rfl⟩ := date_unique ho2 ho3 (hd2.trans hd3.symm)
        rw [e2, e3]
      have L2 : Hid (Bt.Has ⟨d, n, l⟩ ∧ l.length ≤ 1000000000) := ⟨h2, by have := h2.2.2.2.2.2.1; exact Nat.le_trans this (by decide)⟩
      have RI : Hid (RowI wU.heap.size wV (.slice pa2 pn2 pc2) l) := ri
      clear hq h2 ho2 hd2 e2 ri
      go_upto_region 14 with (refine step_store rfl 24 _ _ rfl P 0 24 [.int .i64 q1, .int .i64 q2, .slice pa pn pc] [.int .i64 d, .int .i64 n, .slice pa2 pn2 pc2] rfl rfl V0.out.2.1 (Nat.le_refl _) (sizeB3 _ _ _) (oneB3 _ _ _ _ _) ?_; intro wX nbX gX)
      have X0 : Hid (Below w.heap.size w wX ∧ Blk P 24 [.int .i64 d, .int .i64 n, .slice pa2 pn2 pc2] wX ∧ RdI wX (.slice pa2 pn2 pc2) l) := ⟨below_row V0.out.1 gX HP.out, nbX, RowI.rd (World.ownsRow.kept RI.out gX (by
        have lt := V0.out.2.2
        cases hv : (Value.slice pa2 pn2 pc2).ownBlock with
        | none => exact .inl rfl
        | some g => exact .inr (fun e => by have := (World.ownsRow.lt RI.out g hv).1; injection e with e; omega)))⟩
      clear nbX gX V0 RI
      go_wp2_with (refine step_load rfl 24 _ rfl P 0 rfl [.int .i64 d, .int .i64 n, .slice pa2 pn2 pc2] _ (Blk.all X0.out.2.1) Tryd.underlying24 rfl (sizeB3 _ _ _) ?_)
      refine (FG.out ⟨d, n, l⟩ wX _ X0.out.1 L2.out.2 X0.out.2.2).mono ?_
      rintro e wY ⟨ya, yn, yc, rfl, rY, -, bY⟩
      rw [decide_eq_true L2.out.1]
      have Y0 : Hid (Below w.heap.size w wY ∧ RdB wY (.slice ya yn yc) bs ∧ RdB wY (.slice fa NF fc) bs) := ⟨below_trans X0.out.1 bY, by rw [F2.out]; exact RowV.rd rY, Rd.later RF.out (below_trans X0.out.1 bY)⟩
      clear rY bY X0
      go_wp2_with fail
      refine (SB.out wY _ _ Y0.out.2.1 Y0.out.2.2).mono ?_
      rintro e wZ ⟨rfl, bZZ⟩
      have Z0 : Hid (Below w.heap.size w wZ) := below_trans Y0.out.1 bZZ
      clear bZZ Y0
      go_wp2_with fail
      go_ret
      exact ⟨rfl, Z0.out⟩
  · rw [decide_eq_false hb]
    clear hb
    obtain ⟨q1, hq1⟩ : ∃ q : Int, 738000 = q := ⟨_, rfl⟩
    obtain ⟨q2, hq2⟩ : ∃ q : Int, 1 = q := ⟨_, rfl⟩
    have T0 : Hid (Below w.heap.size w w9 ∧ Blk P 24 [.int .i64 q1, .int .i64 q2, .slice qa qn qc] w9) := ⟨W9.out.2.1, by rw [← hq1, ← hq2]; exact W9.out.2.2.1⟩
    clear W9 hq1 hq2
    go_wp2_with fail
    refine (CP.out w9 _ bs FLE.out (Rd.later RF.out T0.out.1)).mono ?_
    rintro e wU ⟨ca, cn, cc, rfl, rU, bU⟩
    have U0 : Hid (Below w.heap.size w wU ∧ Blk P 24 [.int .i64 q1, .int .i64 q2, .slice qa qn qc] wU ∧ RdB wU (.slice ca cn cc) bs) := ⟨below_trans T0.out.1 bU, T0.out.2.below bU, RowV.rd rU⟩
    clear rU bU T0
    go_wp2_with fail
    refine (PA.out wU _ bs U0.out.1 (by have := FLE.out; omega) U0.out.2.2 H8.out).mono ?_
    rintro e wV ⟨bV, hm⟩
    have V0 : Hid (Below w.heap.size w wV ∧ Blk P 24 [.int .i64 q1, .int .i64 q2, .slice qa qn qc] wV ∧ P < wU.heap.size) := ⟨below_trans U0.out.1 bV, U0.out.2.1.below bV, U0.out.2.1.lt⟩
    clear bV U0
    rcases parse_cases bs with ⟨c, i, hq⟩ | ⟨d, n, l, hq⟩
    · rw [hq] at hm
      subst hm
      have e0 : ((c : Int) != 0) = true := by have := parse_pos hq; simp; omega
      clear hq
      go_upto_region 14 with (refine step_store rfl 24 _ _ rfl P 0 24 [.int .i64 q1, .int .i64 q2, .slice qa qn qc] bZ rfl rfl V0.out.2.1 (Nat.le_refl _) (sizeB3 _ _ _) (oneB3 _ _ _ _ _) ?_; intro wX nbX gX)
      have X0 : Hid (Below w.heap.size w wX) := below_row V0.out.1 gX HP.out
      have cz := nbX.cell 2 _ rfl
      clear gX V0
      go_wp2_with fail
      go_ret
      exact ⟨rfl, X0.out⟩
    · rw [hq] at hm
      obtain ⟨pa, pn, pc, rfl, ri⟩ := hm
      obtain ⟨h2, y2, m2, k2, ho2, hd2, e2⟩ := parse_ok hq
      have F2 : Hid (bs = fileOf ⟨d, n, l⟩) := by
        show _ = _
        obtain ⟨y3, m3, k3, ho3, hd3, e3⟩ := fileOf_has h2
        obtain ⟨rfl, rfl, rfl⟩ := date_unique ho2 ho3 (hd2.trans hd3.symm)
        rw [e2, e3]
      have L2 : Hid (Bt.Has ⟨d, n, l⟩ ∧ l.length ≤ 1000000000) := ⟨h2, by have := h2.2.2.2.2.2.1; exact Nat.le_trans this (by decide)⟩
      have RI : Hid (RowI wU.heap.size wV (.slice pa pn pc) l) := ri
      clear hq h2 ho2 hd2 e2 ri
      go_upto_region 14 with (refine step_store rfl 24 _ _ rfl P 0 24 [.int .i64 q1, .int .i64 q2, .slice qa qn qc] [.int .i64 d, .int .i64 n, .slice pa pn pc] rfl rfl V0.out.2.1 (Nat.le_refl _) (sizeB3 _ _ _) (oneB3 _ _ _ _ _) ?_; intro wX nbX gX)
      have X0 : Hid (Below w.heap.size w wX ∧ Blk P 24 [.int .i64 d, .int .i64 n, .slice pa pn pc] wX ∧ RdI wX (.slice pa pn pc) l) := ⟨below_row V0.out.1 gX HP.out, nbX, RowI.rd (World.ownsRow.kept RI.out gX (by
        have lt := V0.out.2.2
        cases hv : (Value.slice pa pn pc).ownBlock with
        | none => exact .inl rfl
        | some g => exact .inr (fun e => by have := (World.ownsRow.lt RI.out g hv).1; injection e with e; omega)))⟩
      clear nbX gX V0 RI
      go_wp2_with (refine step_load rfl 24 _ rfl P 0 rfl [.int .i64 d, .int .i64 n, .slice pa pn pc] _ (Blk.all X0.out.2.1) Tryd.underlying24 rfl (sizeB3 _ _ _) ?_)
      refine (FG.out ⟨d, n, l⟩ wX _ X0.out.1 L2.out.2 X0.out.2.2).mono ?_
      rintro e wY ⟨ya, yn, yc, rfl, rY, -, bY⟩
      rw [decide_eq_true L2.out.1]
      have Y0 : Hid (Below w.heap.size w wY ∧ RdB wY (.slice ya yn yc) bs ∧ RdB wY (.slice fa NF fc) bs) := ⟨below_trans X0.out.1 bY, by rw [F2.out]; exact RowV.rd rY, Rd.later RF.out (below_trans X0.out.1 bY)⟩
      clear rY bY X0
      go_wp2_with fail
      refine (SB.out wY _ _ Y0.out.2.1 Y0.out.2.2).mono ?_
      rintro e wZ ⟨rfl, bZZ⟩
      have Z0 : Hid (Below w.heap.size w wZ) := below_trans Y0.out.1 bZZ
      clear bZZ Y0
      go_wp2_with fail
      go_ret
      exact ⟨rfl, Z0.out⟩
end Go.Proofs.YtmgjkecejloghaaDoor
