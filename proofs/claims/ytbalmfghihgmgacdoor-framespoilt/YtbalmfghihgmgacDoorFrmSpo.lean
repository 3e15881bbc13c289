/-
  Ours: the walk of FrameSpoilt.
-/
import Derived.Test.YtbalmfghihgmgacDoorFrmTurn
import Derived.Test.YtbalmfghihgmgacDoorFrmCut
namespace Go.Proofs.YtbalmfghihgmgacDoor
open Go.RowKit

theorem decL_whole {l : List Nat} {t : Nat} (h : CrcM.whole l = (0, t)) : decL l 0 = ([], 0, t) := by
  unfold decL
  rw [if_neg (by omega), Int.toNat_zero, List.drop_zero, h, if_pos rfl]
theorem decL_enc {p : List Nat} (hp : p.length ≤ 4194304) (q : List Nat) : decL (CrcM.enc p ++ q) 0 = (p, ((p.length + 8 : Nat) : Int), 0) := by
  obtain ⟨w1, w2⟩ := CrcM.whole_enc hp q
  unfold decL
  rw [if_neg (by omega), Int.toNat_zero, List.drop_zero, w1, w2, if_neg (by simp)]
  simp

set_option maxRecDepth 100000 in
set_option maxHeartbeats 2000000 in
theorem spoilt_any (p q : List Nat) (fr : Int) (B : Nat) (vp vq : Value) (w : World) (f1 : -9223372036854775808 ≤ fr) (f2 : fr ≤ 9223372036854775807) (hB : B < 4294967296) (hp : ∀ b ∈ p, b < 256) (hq : ∀ b ∈ q, b < 256) (h1 : RdB w vp p) (h2 : RdB w vq q) (hT : TabS w) :
    Calls Tryd.prog 4 #[vp, .int .i64 fr, .int .u32 (B : Int), vq] w fun e w' => e = .returned (.bool true) ∧ Below w.heap.size w w' := by
  obtain ⟨a1, c1, rfl, _, _⟩ := h1.len
  obtain ⟨a2, c2, rfl, _, _⟩ := h2.len
  have e1 : (p.map bv).length = p.length := List.length_map ..
  have e2 : (q.map bv).length = q.length := List.length_map ..
  rw [e1] at h1 ⊢
  rw [e2] at h2 ⊢
  by_cases g1 : (4194304 : Int) < (p.length : Int)
  · have d1 : decide ((4194304 : Int) < (p.length : Int)) = true := decide_eq_true g1
    clear h1 h2 hp hq e1 e2 hT
    generalize p.length = L1 at *
    generalize q.length = L2 at *
    go_enter Tryd.func4, Tryd.ntmps4
    go_wp2_with fail
    go_ret
    exact ⟨rfl, Below.refl _ _⟩
  have d1 : decide ((4194304 : Int) < (p.length : Int)) = false := decide_eq_false g1
  by_cases g2 : (6000000 : Int) < (q.length : Int)
  · have d2 : decide ((6000000 : Int) < (q.length : Int)) = true := decide_eq_true g2
    clear h1 h2 hp hq e1 e2 hT
    generalize p.length = L1 at *
    generalize q.length = L2 at *
    go_enter Tryd.func4, Tryd.ntmps4
    go_wp2_with fail
    go_ret
    exact ⟨rfl, Below.refl _ _⟩
  have d2 : decide ((6000000 : Int) < (q.length : Int)) = false := decide_eq_false g2
  have HEL := CrcM.enc_len p
  have HFB : ∀ b ∈ CrcM.enc p ++ q, b < 256 := fun b hb => by
    rcases List.mem_append.1 hb with h | h
    · exact CrcM.enc_lt hp b h
    · exact hq b h
  have HFL : (CrcM.enc p ++ q).length = p.length + 8 + q.length := by rw [List.length_append, HEL]
  have C0 : Hid (Calls Tryd.prog 10 #[.slice a1 p.length c1] w (NewB w p)) := copied_at p _ w (by omega) h1
  have ENC : Hid (∀ w' v, Below w.heap.size w w' → RdB w' v p → Calls Tryd.prog 9 #[v] w' (NewT w' (CrcM.enc p))) := fun w' v hb hr => encode_at p v w' hp (by omega) hr (hT.below hb)
  have PLS : Hid (∀ w' v, Below w.heap.size w w' → RdB w' v (CrcM.enc p) → Calls Tryd.prog 11 #[v, .slice a2 q.length c2] w' (NewB w' (CrcM.enc p ++ q))) := fun w' v hb hr => plus_at _ _ _ _ w' (by omega) (by omega) hr (Rd.later h2 hb)
  have DEC : Hid (∀ w' v, Below w.heap.size w w' → RdB w' v (CrcM.enc p ++ q) → Calls Tryd.prog 15 #[v, .int .i64 0] w' (NewP w' (p, ((p.length + 8 : Nat) : Int), 0))) := fun w' v hb hr => by
    have := decode_at (CrcM.enc p ++ q) 0 v w' HFB (by omega) hr (hT.below hb)
    rw [decL_enc (by omega)] at this
    exact this
  have DEC2 : Hid (∀ w' v l, Below w.heap.size w w' → (∀ b ∈ l, b < 256) → l.length = (CrcM.enc p ++ q).length → CrcM.whole l = (0, 3) → RdB w' v l → Calls Tryd.prog 15 #[v, .int .i64 0] w' (NewP w' ([], 0, 3))) := fun w' v l hb hlb hll hw hr => by
    have := decode_at l 0 v w' hlb (by omega) hr (hT.below hb)
    rw [decL_whole hw] at this
    exact this
  have SCN2 : Hid (∀ w' v l, Below w.heap.size w w' → (∀ b ∈ l, b < 256) → l.length = (CrcM.enc p ++ q).length → CrcM.whole l = (0, 3) → RdB w' v l → Calls Tryd.prog 12 #[v] w' fun e w'' => ∃ a c, e = .returned (.tuple #[.slice a 0 c, .int .i64 0, .int .i64 3]) ∧ Below w'.heap.size w' w'') := fun w' v l hb hlb hll hw hr => by
    have := scan_at l v w' hlb (by omega) hr (hT.below hb)
    unfold ScanIs at this
    have e : CrcM.scan l = ([], 0, 3) := by rw [CrcM.scan_none (by rw [hw]), hw]
    rw [e] at this
    exact this.mono fun e w'' ⟨a, c, h1, _, h3⟩ => ⟨a, c, h1, h3⟩
  have SAM : Hid (∀ w' v, Below w.heap.size w w' → RdB w' v p → Calls Tryd.prog 13 #[v, .slice a1 p.length c1] w' fun e w'' => e = .returned (.bool true) ∧ ∃ n, w'' = w'.drewN n) := fun w' v hb hr => (same_at p p _ _ w' (by omega) hr (Rd.later h1 hb)).mono fun e w'' ⟨k1, k2⟩ => ⟨by rw [k1, decide_eq_true rfl], k2⟩
  have END : Hid (∀ f l, 32 ≤ f → f < 8 * (p.length + 8) → Spo (CrcM.enc p ++ q) f B (8 * (p.length + 8) - f) 32 l → mskd B (8 * (p.length + 8) - f) 32 ≠ 0 → CrcM.whole l = (0, 3)) := fun f l h32 hf hs h0 => Spo.end (by omega) hp hq h32 hf hs h0
  have ZER : Hid (∀ f M, Spo (CrcM.enc p ++ q) f B M 0 (CrcM.enc p ++ q)) := fun f M => Spo.zero HFB f B M
  have TRN : Hid (∀ w' v l (j base : Nat), (∀ b ∈ l, b < 256) → l.length = (CrcM.enc p ++ q).length → j < 8 * l.length → RowB 5 base w' v l → Calls Tryd.prog 16 #[v, .int .i64 (j : Int)] w' fun e w'' => (∃ u, e = .returned u) ∧ RowB 5 base w'' v (turnB l j) ∧ w'.grownBy w'' v.ownBlock) := fun w' v l j base hlb hll hj hr => turn_at l j base v w' (by omega) hj hlb hr
  have HLE : Hid ((CrcM.enc p ++ q).length = p.length + 8 + q.length) := HFL
  have HEL' : Hid ((CrcM.enc p).length = p.length + 8) := HEL
  clear h1 h2 hp hq e1 e2 hT HFB HEL HFL
  generalize CrcM.enc p ++ q = F at *
  generalize CrcM.enc p = EP at *
  generalize hL1 : p.length = L1 at *
  generalize hL2 : q.length = L2 at *
  have HL1 : Hid (p.length = L1) := hL1
  clear hL1 hL2
  have big1 : L1 + 8 + L2 ≤ 1000000000 := by omega
  have n1 : (((L1 + 8 : Nat) : Int) != (L1 : Int) + 8) = false := by simp
  have hM1 : L1 + 8 ≤ 4194312 := by omega
  have hM0 : 8 ≤ L1 + 8 := by omega
  have hFM : L1 + 8 ≤ L1 + 8 + L2 := by omega
  generalize L1 + 8 + L2 = FL at *
  generalize L1 + 8 = M1 at *
  have n2 : ((M1 : Int) != (M1 : Int)) = false := by simp
  go_enter Tryd.func4, Tryd.ntmps4
  go_wp2_with fail
  refine C0.out.mono ?_
  rintro e w1 ⟨v1, rfl, r1, b1⟩
  have R1 : Hid (RdB w1 v1 p) := RowV.rd r1
  have B1 : Hid (Below w.heap.size w w1) := b1
  clear r1 b1 C0
  go_wp2_with fail
  refine (ENC.out _ _ B1.out R1.out).mono ?_
  rintro e w2 ⟨a3, c3, rfl, r2, b2⟩
  have R2 : Hid (RdB w2 (.slice a3 EP.length c3) EP) := RowV.rd r2
  have B2 : Hid (Below w.heap.size w w2) := below_trans B1.out b2
  rw [HEL'.out] at R2 ⊢
  clear r2 b2 B1 R1
  go_wp2_with fail
  refine (PLS.out _ _ B2.out R2.out).mono ?_
  rintro e w3 ⟨v3, rfl, r3, b3⟩
  have R3 : Hid (RowB 5 w.heap.size w3 v3 F) := r3.mono B2.out.size
  have B3 : Hid (Below w.heap.size w w3) := below_trans B2.out b3
  obtain ⟨a4, c4, rfl, hc4, _⟩ := (RowV.rd r3).len
  rw [List.length_map, HLE.out] at R3 hc4 ⊢
  have HC4 : FL ≤ c4 := hc4
  clear r3 b3 B2 R2 ENC PLS hc4
  go_wp2_with fail
  refine (DEC.out _ _ B3.out (RowV.rd R3.out)).mono ?_
  rintro e w4 ⟨a5, c5, rfl, r4, b4⟩
  simp only at r4 ⊢
  have B4 : Hid (Below w.heap.size w w4) := below_trans B3.out b4
  have R4 : Hid (RowB 5 w.heap.size w4 (.slice a4 FL c4) F) := RowV.later R3.out b4
  have P4 : Hid (RdB w4 (.slice a5 L1 c5) p) := by have := RowV.rd r4; rw [HL1.out] at this; exact this
  rw [HL1.out]
  clear r4 b4 B3 R3 DEC
  go_wp2_with fail
  refine (SAM.out _ _ B4.out P4.out).mono ?_
  rintro e w5 ⟨rfl, n5, rfl⟩
  have B5 : Hid (Below w.heap.size w (w4.drewN n5)) := below_drewN B4.out n5
  have R5 : Hid (RowB 5 w.heap.size (w4.drewN n5) (.slice a4 FL c4) F) := RowV.drewN R4.out n5
  clear SAM P4 R4 B4
  go_wp2_with fail
  generalize w4.drewN n5 = w5 at *
  have HBB : Hid (∀ i, B / 2 ^ i < 4294967296 ∧ B / 2 ^ (i + 1) = B / 2 ^ i / 2) := fun i => ⟨Nat.lt_of_le_of_lt (Nat.div_le_self _ _) hB, by rw [Nat.pow_succ, Nat.div_div_eq_div_mul]⟩
  have Z0 : Hid (B = B / 2 ^ 0) := by show _ = _; rw [Nat.pow_zero, Nat.div_one]
  clear hB
  by_cases hin : 32 ≤ fr ∧ fr < 8 * (M1 : Int)
  · obtain ⟨f, rfl⟩ : ∃ f : Nat, fr = (f : Int) := ⟨fr.toNat, by omega⟩
    have h32 : 32 ≤ f := by omega
    have hf8 : f < 8 * M1 := by omega
    have D32 : decide ((32 : Int) ≤ (f : Int)) = true := decide_eq_true (by omega)
    have DF8 : decide ((f : Int) < 8 * (M1 : Int)) = true := decide_eq_true (by omega)
    have EN : Hid (∀ l, Spo F f B (8 * M1 - f) 32 l → mskd B (8 * M1 - f) 32 ≠ 0 → CrcM.whole l = (0, 3)) := fun l h1 h2 => END.out f l h32 hf8 h1 h2
    have ZE : Hid (Spo F f B (8 * M1 - f) 0 F) := ZER.out f _
    have MZ : Hid (decide (mskd B (8 * M1 - f) 0 ≠ 0) = false) := by show _ = _; rw [mskd_zero]; rfl
    clear hin END ZER
    go_loopw [2, 15, 16] (fun vb vs vi wr => ∃ (i : Nat) (l : List Nat), vi = .int .i64 (i : Int) ∧ i ≤ 32 ∧ vb = .int .u32 ((B / 2 ^ i : Nat) : Int) ∧ vs = .bool (decide (mskd B (8 * M1 - f) i ≠ 0)) ∧ Hid (Spo F f B (8 * M1 - f) i l) ∧ Hid (RowB 5 w.heap.size wr (.slice a4 FL c4) l) ∧ Hid (Below w.heap.size w wr)) (fun _ _ vi _ => 32 - (intOf vi).toNat)
    case atStart => exact ⟨0, F, rfl, by omega, by rw [← Z0.out], by rw [MZ.out], ZE, R5, B5⟩
    case round =>
      clear R5 B5 ZE MZ
      obtain ⟨i, l, rfl, hi, rfl, rfl, hS, hR, hBl⟩ := hrel
      obtain ⟨hz, hz2⟩ := HBB.out i
      have HZ2 : Hid (B / 2 ^ (i + 1) = B / 2 ^ i / 2) := hz2
      clear hz2
      by_cases hlt : (i : Int) < 32
      · by_cases ho : B / 2 ^ i % 2 = 1
        · by_cases hM : f + i < 8 * M1
          · -- the bit is turned
            have HY : Hid (Spo F f B (8 * M1 - f) (i + 1) (turnB l (f + i))) := hS.out.yes ho (by omega) (by have := HLE.out; omega)
            have HT2 : Hid (decide (mskd B (8 * M1 - f) (i + 1) ≠ 0) = true) := by
              show _ = _
              rw [(mskd_yes ho (by omega)).1]
              have := Nat.two_pow_pos i
              exact decide_eq_true (by omega)
            have TR := TRN.out wr (.slice a4 FL c4) l (f + i) w.heap.size hS.out.lt hS.out.len (by have := hS.out.len; have := HLE.out; omega) hR.out
            have TR' : Hid (Calls Tryd.prog 16 #[.slice a4 FL c4, .int .i64 ((f : Int) + (i : Int))] wr fun e w'' => (∃ u, e = .returned u) ∧ RowB 5 w.heap.size w'' (.slice a4 FL c4) (turnB l (f + i)) ∧ wr.grownBy w'' (Value.slice a4 FL c4).ownBlock) := by rw [show ((f + i : Nat) : Int) = (f : Int) + (i : Int) by omega] at TR; exact TR
            have q0 : (((B / 2 ^ i : Nat) : Int) % 2 == 1) = true := beq_iff_eq.2 (by omega)
            have DM : decide ((f : Int) + (i : Int) < 8 * (M1 : Int)) = true := decide_eq_true (by omega)
            have BW : Hid (∀ w'', wr.grownBy w'' (Value.slice a4 FL c4).ownBlock → Below w.heap.size w w'') := fun w'' hg => below_grown hBl.out hR.out (Nat.le_refl _) hBl.out.size hg
            generalize decide (mskd B (8 * M1 - f) i ≠ 0) = sm at *
            generalize B / 2 ^ i = z at *
            clear TR hS ho hR hBl
            go_wp2_with fail
            refine TR'.out.mono ?_
            rintro e w6 ⟨⟨u, rfl⟩, r6, g6⟩
            have R6 : Hid (RowB 5 w.heap.size w6 (.slice a4 FL c4) (turnB l (f + i))) := r6
            have B6 : Hid (Below w.heap.size w w6) := BW.out w6 g6
            clear r6 g6 TR'
            go_wp2_with fail
            go_roundw
            case rel => exact ⟨i + 1, turnB l (f + i), by go_num, by omega, by rw [HZ2.out]; go_num, by rw [HT2.out], HY, R6, B6⟩
            case measure => simp [intOf]; omega
          · have HY : Hid (Spo F f B (8 * M1 - f) (i + 1) l) := hS.out.no (.inr (by omega))
            have HM2 : Hid (mskd B (8 * M1 - f) (i + 1) = mskd B (8 * M1 - f) i) := mskd_no (.inr (by omega))
            have q0 : (((B / 2 ^ i : Nat) : Int) % 2 == 1) = true := beq_iff_eq.2 (by omega)
            have DM : decide ((f : Int) + (i : Int) < 8 * (M1 : Int)) = false := decide_eq_false (by omega)
            generalize B / 2 ^ i = z at *
            go_wp2_with fail
            go_roundw
            case rel => exact ⟨i + 1, l, by go_num, by omega, by rw [HZ2.out]; go_num, by rw [HM2.out], HY, hR, hBl⟩
            case measure => simp [intOf]; omega
        · have HY : Hid (Spo F f B (8 * M1 - f) (i + 1) l) := hS.out.no (.inl ho)
          have HM2 : Hid (mskd B (8 * M1 - f) (i + 1) = mskd B (8 * M1 - f) i) := mskd_no (.inl ho)
          have q0 : (((B / 2 ^ i : Nat) : Int) % 2 == 1) = false := beq_eq_false_iff_ne.2 (by omega)
          generalize B / 2 ^ i = z at *
          clear ho
          go_wp2_with fail
          go_roundw
          case rel => exact ⟨i + 1, l, by go_num, by omega, by rw [HZ2.out]; go_num, by rw [HM2.out], HY, hR, hBl⟩
          case measure => simp [intOf]; omega
      · obtain rfl : i = 32 := by omega
        by_cases h0 : mskd B (8 * M1 - f) 32 = 0
        · have e0 : decide (mskd B (8 * M1 - f) 32 ≠ 0) = false := decide_eq_false (by omega)
          rw [e0]
          clear e0 h0
          generalize B / 2 ^ 32 = z at *
          go_wp2_with fail
          go_ret
          exact ⟨rfl, hBl.out⟩
        · have e0 : decide (mskd B (8 * M1 - f) 32 ≠ 0) = true := decide_eq_true h0
          rw [e0]
          have WH : Hid (CrcM.whole l = (0, 3)) := EN.out l hS.out h0
          clear e0 h0 EN
          generalize B / 2 ^ 32 = z at *
          have D2 : Hid (Calls Tryd.prog 15 #[.slice a4 FL c4, .int .i64 0] wr (NewP wr ([], 0, 3))) := DEC2.out _ _ l hBl.out hS.out.lt hS.out.len WH.out (RowV.rd hR.out)
          have S2 : Hid (∀ w', Below w.heap.size w w' → RdB w' (.slice a4 FL c4) l → Calls Tryd.prog 12 #[.slice a4 FL c4] w' fun e w'' => ∃ a c, e = .returned (.tuple #[.slice a 0 c, .int .i64 0, .int .i64 3]) ∧ Below w'.heap.size w' w'') := fun w' h1 h2 => SCN2.out _ _ l h1 hS.out.lt hS.out.len WH.out h2
          clear DEC2 SCN2 hS WH TRN
          go_wp2_with fail
          refine D2.out.mono ?_
          rintro e w6 ⟨a6, c6, rfl, r6, b6⟩
          have B6 : Hid (Below w.heap.size w w6) := below_trans hBl.out b6
          have R6 : Hid (RdB w6 (.slice a4 FL c4) l) := RowV.rd (RowV.later hR.out b6)
          clear r6 b6 D2 hR hBl
          go_wp2_with fail
          refine (S2.out _ B6.out R6.out).mono ?_
          rintro e w7 ⟨a7, c7, rfl, b7⟩
          have B7 : Hid (Below w.heap.size w w7) := below_trans B6.out b7
          clear b7 S2 R6 B6
          go_wp2_with fail
          go_ret
          exact ⟨rfl, B7.out⟩
  · go_loopw [2, 15, 16] (fun vb vs vi wr => ∃ (i : Nat), wr = w5 ∧ vi = .int .i64 (i : Int) ∧ i ≤ 32 ∧ vb = .int .u32 ((B / 2 ^ i : Nat) : Int) ∧ vs = .bool false) (fun _ _ vi _ => 32 - (intOf vi).toNat)
    case atStart => exact ⟨0, rfl, rfl, by omega, by rw [← Z0.out], rfl⟩
    case round =>
      obtain ⟨i, rfl, rfl, hi, rfl, rfl⟩ := hrel
      obtain ⟨hz, hz2⟩ := HBB.out i
      have HZ2 : Hid (B / 2 ^ (i + 1) = B / 2 ^ i / 2) := hz2
      clear hz2 TRN DEC2 SCN2 END ZER
      by_cases hlt : (i : Int) < 32
      · generalize B / 2 ^ i = z at *
        by_cases ho : z % 2 = 1
        · have q0 : ((z : Int) % 2 == 1) = true := beq_iff_eq.2 (by omega)
          by_cases h32 : 32 ≤ fr
          · have D32 : decide ((32 : Int) ≤ fr) = true := decide_eq_true h32
            have DF8 : decide (fr < 8 * (M1 : Int)) = false := decide_eq_false (by omega)
            go_wp2_with fail
            go_roundw
            case rel => exact ⟨i + 1, by trivial, by go_num, by omega, by rw [HZ2.out]; go_num, rfl⟩
            case measure => simp [intOf]; omega
          · have D32 : decide ((32 : Int) ≤ fr) = false := decide_eq_false h32
            go_wp2_with fail
            go_roundw
            case rel => exact ⟨i + 1, by trivial, by go_num, by omega, by rw [HZ2.out]; go_num, rfl⟩
            case measure => simp [intOf]; omega
        · have q0 : ((z : Int) % 2 == 1) = false := beq_eq_false_iff_ne.2 (by omega)
          go_wp2_with fail
          go_roundw
          case rel => exact ⟨i + 1, by trivial, by go_num, by omega, by rw [HZ2.out]; go_num, rfl⟩
          case measure => simp [intOf]; omega
      · obtain rfl : i = 32 := by omega
        generalize B / 2 ^ 32 = z at *
        go_wp2_with fail
        go_ret
        exact ⟨rfl, B5.out⟩
end Go.Proofs.YtbalmfghihgmgacDoor
