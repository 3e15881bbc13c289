/-
  Ours: NetworkLetters.
-/
import Derived.Test.YtblfolaakblcfaaNwLetM
namespace Go.Proofs.Ytblfolaakblcfaa
open Go.RowKit NwM

theorem fateC_one {s : ByteArray} {c : Nat} (h : bytesOf s = [c]) (hc : isF c) : fateC nt0 s = 0 ∧ fateT nt0 s = { nt0 with fs := [c] } := by
  have hs : s.size = 1 := by rw [← bytesOf_len, h]; rfl
  have ha : allF s = true := by unfold allF; rw [h, hs]; simp [hc]
  have e : fateC nt0 s = 0 := by
    unfold fateC
    rw [if_neg (by omega), if_neg (by rw [ha]; decide), if_neg (by show ¬ 4096 < 0 + s.size; omega)]
  refine ⟨e, ?_⟩
  unfold fateT
  rw [if_pos e, h]
  rfl
theorem fateC_bad {s : ByteArray} {c : Nat} (h : bytesOf s = [c]) (hc : ¬ isF c) : fateC nt0 s = 160 := by
  have hs : s.size = 1 := by rw [← bytesOf_len, h]; rfl
  have ha : allF s = false := by unfold allF; rw [h, hs]; simp [hc]
  unfold fateC
  rw [if_neg (by omega), if_pos ha]

theorem underS : Try.prog.underlying 9 = some .string := by kernel_rfl
theorem underU8 : Try.prog.underlying 5 = some (.int .u8) := by kernel_rfl
/-- A byte as a text. -/
def strOf (c : Nat) : ByteArray := ⟨#[UInt8.ofNat c]⟩
theorem strOf_bytes {c : Nat} (hc : c < 256) : bytesOf (strOf c) = [c] := by
  show [(UInt8.ofNat c).toNat] = [c]
  rw [UInt8.toNat_ofNat', Nat.mod_eq_of_lt (by omega)]
theorem one_str {c : Nat} (hc : c < 256) (w : World) : (convert 22 9 (.slice (some ⟨w.heap.size, 0, none⟩) 1 1)).run Try.prog (w.alloc (.cells #[.int .u8 ((c : Nat) : Int)] 5)) = .ok (.string (strOf c)) (w.alloc (.cells #[.int .u8 ((c : Nat) : Int)] 5)) := by
  refine run_convert_bytes_back (P := Try.prog) (w.alloc (.cells #[.int .u8 ((c : Nat) : Int)] 5)) 22 9 5 ⟨w.heap.size, 0, none⟩ 1 [UInt8.ofNat c] underB underU8 underS (fun j hj => ?_)
  have : j = 0 := by simpa using hj
  subst this
  rw [Addr.add_lit]
  refine (Blk.new 5 [.int .u8 ((c : Nat) : Int)] w).cell 0 _ ?_
  show some _ = some (Value.int .u8 (((UInt8.ofNat c).toNat : Nat) : Int))
  rw [UInt8.toNat_ofNat', Nat.mod_eq_of_lt (by omega)]
theorem let0_eq (c : Nat) (p : Pk) (ha : p.ack = false) : hand { nt0 with fs := [c] } p = let0 c (nP p.id p.ba p.bn p.bc p.bs) := by
  cases p
  subst ha
  rfl

theorem accOne (a : Ac) (i : Int) (h : a.id = i) : accT [a] i = a.tk := by
  unfold accT
  rw [List.find?_cons, show (a.id == i) = true from by simpa using h]
  rfl
theorem let0_all (c : Nat) (i : Int) (ba : Option Addr) (bn bc : Nat) (bs : List Nat) (h : bs.length ≤ 140737488351232) : AllN (fun _ b => b.length ≤ 140737488351232) (let0 c (nP i ba bn bc bs)) := by
  have h0 : AllN (fun _ b => b.length ≤ 140737488351232) { nt0 with fs := [c] } := ⟨(AllN.nt0 (fun _ b => b.length ≤ 140737488351232)).fl, (AllN.nt0 (fun _ b => b.length ≤ 140737488351232)).ac⟩
  exact h0.hand (p := nP i ba bn bc bs) (fun _ => h)
set_option maxRecDepth 40000 in
set_option maxHeartbeats 4000000 in
theorem letters_x (id : Int) (a : Option Addr) (n cp : Nat) (bs : List Nat) (w : World) (hr : RdB w (.slice a n cp) bs) (hl : bs.length ≤ 140737488351232) :
    Calls Try.prog 3 #[.int .u8 120, .int .i64 id, .slice a n cp] w fun e w' => e = .returned (.bool true) ∧ Below w.heap.size w w' := by
  have NW : Hid (Calls Try.prog 9 #[] w (NewN w)) := new_at w
  have RD : Hid (RdB w (.slice a n cp) bs) := hr
  clear hr
  have hc : 120 < 256 := by decide
  have hF : isF 120 := .inl rfl
  have lL : lateL 120 = 0 := rfl
  go_enter Try.func3, Try.ntmps3
  go_wp2_with fail
  refine NW.out.mono ?_
  intro e w1 h1
  obtain ⟨R, S, rfl, n1⟩ := NO.new h1
  have N1 : Hid (NO w R S (fun _ => False) nt0 w1) := n1
  have cv : (convert 22 9 (.slice (some ⟨w1.heap.size, 0, none⟩) 1 1)).run Try.prog (w1.alloc (.cells #[.int .u8 120] 5)) = .ok (.string (strOf 120)) (w1.alloc (.cells #[.int .u8 120] 5)) := one_str hc w1
  have FA : Hid (Calls Try.prog 10 #[.pointer (some ⟨R, 0, none⟩), .string (strOf 120)] (w1.alloc (.cells #[.int .u8 120] 5)) fun e w' => e = .returned (.int .i64 0) ∧ ∃ S', NPost R S (fun _ => False) (w1.alloc (.cells #[.int .u8 120] 5)) { nt0 with fs := [120] } S' (fun _ => False) w') := by
    have q := fateC_one (strOf_bytes hc) hF
    have := fate_at R S (fun _ => False) nt0 (strOf 120) (w1.alloc (.cells #[.int .u8 120] 5)) (n1.net.below (below_alloc _ _)) (by decide)
    rw [q.1, q.2] at this
    exact this
  clear h1 n1 NW
  go_upto_region 14 with fail
  have cL : ((copL 120 : Nat) : Int) = 0 := rfl
  have B1 : Hid (Below w1.heap.size w1 (w1.alloc (.cells #[.int .u8 120] 5))) := below_alloc _ _
  go_wp2_with fail
  refine FA.out.mono ?_
  rintro e w2 ⟨rfl, S2, p2⟩
  have N2 : Hid (NO w R S2 (fun _ => False) { nt0 with fs := [120] } w2) := (N1.out.later B1.out).step p2
  have CP : Hid (Calls Try.prog 12 #[.slice a n cp] w2 (NewS w2 bs)) := copied_at bs _ w2 hl (Rd.later RD.out N2.out.below)
  clear FA p2 N1 B1 cv
  go_wp2_with fail
  refine CP.out.mono ?_
  rintro e w3 ⟨a3, n3, c3, rfl, r3, b3⟩
  have N3 : Hid (NO w R S2 (fun _ => False) { nt0 with fs := [120] } w3) := N2.out.later b3
  have SN : Hid (Calls Try.prog 11 #[.pointer (some ⟨R, 0, none⟩), .agg #[.bool false, .int .i64 id, .slice a3 n3 c3]] w3 (SendAns R S2 (fun _ => False) { nt0 with fs := [120] } id bs w3)) := send_at R S2 _ _ false id a3 n3 c3 bs w3 N3.out.net (RowV.rd r3) hl (by show (0 : Nat) ≤ 999999999000; decide) (by show (0 : Nat) ≤ 999999999000; decide)
  clear CP r3 b3 N2
  go_wp2_with fail
  refine SN.out.mono ?_
  rintro e w4 ⟨rfl, S4, B4, p, p4, pa, pi, pb⟩
  rw [let0_eq 120 p pa, pi, pb] at p4
  obtain ⟨ba, bn, bc, hp⟩ : ∃ ba bn bc, nP id p.ba p.bn p.bc bs = nP id ba bn bc bs := ⟨_, _, _, rfl⟩
  rw [hp] at p4
  have N4 : Hid (NO w R S4 B4 (let0 120 (nP id ba bn bc bs)) w4) := N3.out.step p4
  have SZ : Hid (sz (let0 120 (nP id ba bn bc bs)) ≤ 6 ∧ (let0 120 (nP id ba bn bc bs)).fl.length = 10) := ⟨hand_sz _ _ rfl, hand_len _ _⟩
  have NW0 : Hid ((let0 120 (nP id ba bn bc bs)).now = 0) := hand_now _ _
  have AB : Hid (AllN (fun _ b => b.length ≤ 140737488351232) (let0 120 (nP id ba bn bc bs))) := let0_all _ _ _ _ _ _ hl
  have FL : Hid (Calls Try.prog 13 #[.pointer (some ⟨R, 0, none⟩)] w4 fun e w' => e = .returned (.int .i64 0) ∧ w4 = w') := by
    have := flying_at R S4 B4 _ w4 N4.out.net (by have := SZ.out.1; omega)
    rw [let_fly 120 hF, cL] at this
    exact this
  clear SN p4 pa pi pb hp N3
  go_wp2_with fail
  refine FL.out.mono ?_
  rintro e _ ⟨rfl, rfl⟩
  clear FL
  go_wp2_with fail
  go_loopw [10] (fun vk wr => ∃ k : Nat, ∃ Sk Bk, vk = .int .i64 ((k : Int) + 1) ∧ k ≤ 12 ∧ NO w R Sk Bk (run (let0 120 (nP id ba bn bc bs)) k) wr) (fun vk _ => 13 - (intOf vk).toNat)
  case atStart => exact ⟨0, S4, B4, rfl, by omega, N4.out⟩
  case round =>
    obtain ⟨k, Sk, Bk, rfl, hk, hno⟩ := hrel
    by_cases hlt : (k : Int) + 1 ≤ 12
    · have d12 : decide ((k : Int) + 1 ≤ 12) = true := decide_eq_true hlt
      have tt : toldL 120 (k + 1) = false := rfl
      have ww : wantL 120 (k + 1) = 0 := rfl
      have LK := let_all 120 hF id ba bn bc bs k
      have LK1 := let_all 120 hF id ba bn bc bs (k + 1)
      have eids : (tick (run (let0 120 (nP id ba bn bc bs)) k)).2 = [] := by rw [LK.ids, tt]; rfl
      have eacc : accT (run (let0 120 (nP id ba bn bc bs)) (k + 1)).ac id = 0 := by
        rw [LK1.ac]
        first | (rw [ww, if_pos rfl]; rfl) | (rw [ww, if_neg (by omega)]; exact (accOne (accA (nP id ba bn bc bs) (lateL 120)) id rfl).trans (by show ((lateL 120 : Nat) : Int) = _; rw [lL]; try rfl))
      have bnd : sz (run (let0 120 (nP id ba bn bc bs)) k) ≤ 6 ∧ (run (let0 120 (nP id ba bn bc bs)) k).now ≤ 12 ∧ sz (run (let0 120 (nP id ba bn bc bs)) (k + 1)) ≤ 6 := ⟨Nat.le_trans (run_sz _ SZ.out.2 k) SZ.out.1, by rw [run_now, NW0.out]; omega, Nat.le_trans (run_sz _ SZ.out.2 (k + 1)) SZ.out.1⟩
      have TK : Hid (Calls Try.prog 14 #[.pointer (some ⟨R, 0, none⟩)] wr (TickAns R Sk Bk (run (let0 120 (nP id ba bn bc bs)) k) wr)) := tick_at R Sk Bk _ wr hno.net (by omega) (by omega)
      have HK : Hid (NO w R Sk Bk (run (let0 120 (nP id ba bn bc bs)) k) wr) := hno
      have AN : Hid (AllN (fun _ b => b.length ≤ 140737488351232) (run (let0 120 (nP id ba bn bc bs)) (k + 1)) ∧ sz (run (let0 120 (nP id ba bn bc bs)) (k + 1)) ≤ 6 ∧ (tick (run (let0 120 (nP id ba bn bc bs)) k)).2 = [] ∧ accT (run (let0 120 (nP id ba bn bc bs)) (k + 1)).ac id = 0 ∧ (tick (run (let0 120 (nP id ba bn bc bs)) k)).1 = run (let0 120 (nP id ba bn bc bs)) (k + 1)) := ⟨AB.out.run (k + 1), bnd.2.2, eids, eacc, rfl⟩
      clear LK LK1 eids eacc bnd hno tt ww
      go_wp2_with fail
      refine TK.out.mono ?_
      rintro e w5 ⟨a5, n5, c5, S5, rfl, r5, p5, x5⟩
      rw [AN.out.2.2.1] at r5
      obtain rfl : n5 = 0 := by
        obtain ⟨_, _, ev, -, -⟩ := (RowV.rd r5).len
        injection ev with _ ev _
      rw [AN.out.2.2.2.2] at p5
      have N5 : Hid (NO w R S5 Bk (run (let0 120 (nP id ba bn bc bs)) (k + 1)) w5 ∧ Rd w5 (.slice a5 0 c5) (([] : List Int).map iv)) := ⟨HK.out.step p5, RowV.rd r5⟩
      have AC : Hid (Calls Try.prog 16 #[.pointer (some ⟨R, 0, none⟩)] w5 (AccAns (run (let0 120 (nP id ba bn bc bs)) (k + 1)) w5)) := accepted_at R S5 Bk _ w5 N5.out.1.net (by have := AN.out.2.1; unfold sz at this; omega) (fun a ha => AN.out.1.ac a ha)
      clear TK HK r5 p5 x5
      go_wp2_with fail
      refine AC.out.mono ?_
      rintro e w6 ⟨a6, n6, c6, ys, rfl, l6, q6, b6⟩
      have TO : Hid (Calls Try.prog 15 #[.slice a6 n6 c6, .int .i64 id] w6 fun e w' => e = .returned (.int .i64 0) ∧ w6 = w') := by
        have hl6 : ys.length ≤ 1000000000000 := by
          have e1 : ys.length = (run (let0 120 (nP id ba bn bc bs)) (k + 1)).ac.length := by have := congrArg List.length q6; simpa using this
          have := AN.out.2.1
          unfold sz at this
          omega
        have := tickOf_at ys id _ w6 hl6 (own_mono l6.row (Nat.zero_le _))
        rw [accT_core q6, AN.out.2.2.2.1] at this
        exact this
      have N6 : Hid (NO w R S5 Bk (run (let0 120 (nP id ba bn bc bs)) (k + 1)) w6 ∧ Rd w6 (.slice a5 0 c5) (([] : List Int).map iv)) := ⟨N5.out.1.later b6, Rd.later N5.out.2 b6⟩
      have BA : Hid (Below w6.heap.size w6 (w6.alloc (.cells #[.int .i64 id] 3))) := below_alloc _ _
      have SI : Hid (Calls Try.prog 17 #[.slice a5 0 c5, .slice (some ⟨w6.heap.size, 0, none⟩) 1 1] (w6.alloc (.cells #[.int .i64 id] 3)) fun e w' => e = .returned (.bool false) ∧ ∃ n, w' = (w6.alloc (.cells #[.int .i64 id] 3)).drewN n) := by
        have := sameIDs_at [] [id] _ _ (w6.alloc (.cells #[.int .i64 id] 3)) (by simp) (Rd.later N6.out.2 BA.out) (RowV.rd (row_new 3 [iv id] w6 (by show 1 ≤ maxLen; decide)))
        have eD : decide (([] : List Int) = [id]) = false := by simp
        rw [eD] at this
        exact this
      clear N5 AC l6 q6 b6
      go_wp2_with fail
      refine TO.out.mono ?_
      rintro e _ ⟨rfl, rfl⟩
      go_wp2_with fail
      refine SI.out.mono ?_
      rintro e _ ⟨rfl, m7, rfl⟩
      have N7 : Hid (NO w R S5 Bk (run (let0 120 (nP id ba bn bc bs)) (k + 1)) ((w6.alloc (.cells #[.int .i64 id] 3)).drewN m7)) := (N6.out.1.later BA.out).drewN m7
      clear TO SI N6 BA AN
      go_wp2_with fail
      go_roundw
      case rel => exact ⟨k + 1, S5, Bk, by go_num, by omega, N7.out⟩
      case measure => simp [intOf]; omega

    · have d12 : decide ((k : Int) + 1 ≤ 12) = false := decide_eq_false hlt
      obtain rfl : k = 12 := by omega
      have FL : Hid (Calls Try.prog 13 #[.pointer (some ⟨R, 0, none⟩)] wr fun e w' => e = .returned (.int .i64 0) ∧ wr = w') := by
        have := flying_at R Sk Bk _ wr hno.net (by have := run_sz _ SZ.out.2 12; have := SZ.out.1; omega)
        rw [(let_all 120 hF id ba bn bc bs 12).fl (by omega)] at this
        exact this
      have FB : Hid (Below w.heap.size w wr) := hno.below
      clear hno
      go_wp2_with fail
      refine FL.out.mono ?_
      rintro e _ ⟨rfl, rfl⟩
      go_wp2_with fail
      go_ret
      exact ⟨rfl, FB.out⟩
set_option maxRecDepth 40000 in
set_option maxHeartbeats 4000000 in
theorem letters_d (id : Int) (a : Option Addr) (n cp : Nat) (bs : List Nat) (w : World) (hr : RdB w (.slice a n cp) bs) (hl : bs.length ≤ 140737488351232) :
    Calls Try.prog 3 #[.int .u8 100, .int .i64 id, .slice a n cp] w fun e w' => e = .returned (.bool true) ∧ Below w.heap.size w w' := by
  have NW : Hid (Calls Try.prog 9 #[] w (NewN w)) := new_at w
  have RD : Hid (RdB w (.slice a n cp) bs) := hr
  clear hr
  have hc : 100 < 256 := by decide
  have hF : isF 100 := .inr (.inl rfl)
  have lL : lateL 100 = 1 := rfl
  go_enter Try.func3, Try.ntmps3
  go_wp2_with fail
  refine NW.out.mono ?_
  intro e w1 h1
  obtain ⟨R, S, rfl, n1⟩ := NO.new h1
  have N1 : Hid (NO w R S (fun _ => False) nt0 w1) := n1
  have cv : (convert 22 9 (.slice (some ⟨w1.heap.size, 0, none⟩) 1 1)).run Try.prog (w1.alloc (.cells #[.int .u8 100] 5)) = .ok (.string (strOf 100)) (w1.alloc (.cells #[.int .u8 100] 5)) := one_str hc w1
  have FA : Hid (Calls Try.prog 10 #[.pointer (some ⟨R, 0, none⟩), .string (strOf 100)] (w1.alloc (.cells #[.int .u8 100] 5)) fun e w' => e = .returned (.int .i64 0) ∧ ∃ S', NPost R S (fun _ => False) (w1.alloc (.cells #[.int .u8 100] 5)) { nt0 with fs := [100] } S' (fun _ => False) w') := by
    have q := fateC_one (strOf_bytes hc) hF
    have := fate_at R S (fun _ => False) nt0 (strOf 100) (w1.alloc (.cells #[.int .u8 100] 5)) (n1.net.below (below_alloc _ _)) (by decide)
    rw [q.1, q.2] at this
    exact this
  clear h1 n1 NW
  go_upto_region 14 with fail
  have cL : ((copL 100 : Nat) : Int) = 2 := rfl
  have B1 : Hid (Below w1.heap.size w1 (w1.alloc (.cells #[.int .u8 100] 5))) := below_alloc _ _
  go_wp2_with fail
  refine FA.out.mono ?_
  rintro e w2 ⟨rfl, S2, p2⟩
  have N2 : Hid (NO w R S2 (fun _ => False) { nt0 with fs := [100] } w2) := (N1.out.later B1.out).step p2
  have CP : Hid (Calls Try.prog 12 #[.slice a n cp] w2 (NewS w2 bs)) := copied_at bs _ w2 hl (Rd.later RD.out N2.out.below)
  clear FA p2 N1 B1 cv
  go_wp2_with fail
  refine CP.out.mono ?_
  rintro e w3 ⟨a3, n3, c3, rfl, r3, b3⟩
  have N3 : Hid (NO w R S2 (fun _ => False) { nt0 with fs := [100] } w3) := N2.out.later b3
  have SN : Hid (Calls Try.prog 11 #[.pointer (some ⟨R, 0, none⟩), .agg #[.bool false, .int .i64 id, .slice a3 n3 c3]] w3 (SendAns R S2 (fun _ => False) { nt0 with fs := [100] } id bs w3)) := send_at R S2 _ _ false id a3 n3 c3 bs w3 N3.out.net (RowV.rd r3) hl (by show (0 : Nat) ≤ 999999999000; decide) (by show (0 : Nat) ≤ 999999999000; decide)
  clear CP r3 b3 N2
  go_wp2_with fail
  refine SN.out.mono ?_
  rintro e w4 ⟨rfl, S4, B4, p, p4, pa, pi, pb⟩
  rw [let0_eq 100 p pa, pi, pb] at p4
  obtain ⟨ba, bn, bc, hp⟩ : ∃ ba bn bc, nP id p.ba p.bn p.bc bs = nP id ba bn bc bs := ⟨_, _, _, rfl⟩
  rw [hp] at p4
  have N4 : Hid (NO w R S4 B4 (let0 100 (nP id ba bn bc bs)) w4) := N3.out.step p4
  have SZ : Hid (sz (let0 100 (nP id ba bn bc bs)) ≤ 6 ∧ (let0 100 (nP id ba bn bc bs)).fl.length = 10) := ⟨hand_sz _ _ rfl, hand_len _ _⟩
  have NW0 : Hid ((let0 100 (nP id ba bn bc bs)).now = 0) := hand_now _ _
  have AB : Hid (AllN (fun _ b => b.length ≤ 140737488351232) (let0 100 (nP id ba bn bc bs))) := let0_all _ _ _ _ _ _ hl
  have FL : Hid (Calls Try.prog 13 #[.pointer (some ⟨R, 0, none⟩)] w4 fun e w' => e = .returned (.int .i64 2) ∧ w4 = w') := by
    have := flying_at R S4 B4 _ w4 N4.out.net (by have := SZ.out.1; omega)
    rw [let_fly 100 hF, cL] at this
    exact this
  clear SN p4 pa pi pb hp N3
  go_wp2_with fail
  refine FL.out.mono ?_
  rintro e _ ⟨rfl, rfl⟩
  clear FL
  go_wp2_with fail
  go_loopw [10] (fun vk wr => ∃ k : Nat, ∃ Sk Bk, vk = .int .i64 ((k : Int) + 1) ∧ k ≤ 12 ∧ NO w R Sk Bk (run (let0 100 (nP id ba bn bc bs)) k) wr) (fun vk _ => 13 - (intOf vk).toNat)
  case atStart => exact ⟨0, S4, B4, rfl, by omega, N4.out⟩
  case round =>
    obtain ⟨k, Sk, Bk, rfl, hk, hno⟩ := hrel
    by_cases hlt : (k : Int) + 1 ≤ 12
    · have d12 : decide ((k : Int) + 1 ≤ 12) = true := decide_eq_true hlt
      have g1 : decide ((1 : Int) ≤ (k : Int) + 1) = true := decide_eq_true (by omega)
      have ww : wantL 100 (k + 1) = 1 := by unfold wantL lateL copL; simp
      by_cases k1 : (k : Int) + 1 = 2
      · have g2 : ((k : Int) + 1 == 2) = true := by simpa using k1
        have tt : toldL 100 (k + 1) = true := by unfold toldL lateL copL; simp; omega
        clear k1
        have LK := let_all 100 hF id ba bn bc bs k
        have LK1 := let_all 100 hF id ba bn bc bs (k + 1)
        have eids : (tick (run (let0 100 (nP id ba bn bc bs)) k)).2 = [id] := by rw [LK.ids, tt]; rfl
        have eacc : accT (run (let0 100 (nP id ba bn bc bs)) (k + 1)).ac id = 1 := by
          rw [LK1.ac]
          first | (rw [ww, if_pos rfl]; rfl) | (rw [ww, if_neg (by omega)]; exact (accOne (accA (nP id ba bn bc bs) (lateL 100)) id rfl).trans (by show ((lateL 100 : Nat) : Int) = _; rw [lL]; try rfl))
        have bnd : sz (run (let0 100 (nP id ba bn bc bs)) k) ≤ 6 ∧ (run (let0 100 (nP id ba bn bc bs)) k).now ≤ 12 ∧ sz (run (let0 100 (nP id ba bn bc bs)) (k + 1)) ≤ 6 := ⟨Nat.le_trans (run_sz _ SZ.out.2 k) SZ.out.1, by rw [run_now, NW0.out]; omega, Nat.le_trans (run_sz _ SZ.out.2 (k + 1)) SZ.out.1⟩
        have TK : Hid (Calls Try.prog 14 #[.pointer (some ⟨R, 0, none⟩)] wr (TickAns R Sk Bk (run (let0 100 (nP id ba bn bc bs)) k) wr)) := tick_at R Sk Bk _ wr hno.net (by omega) (by omega)
        have HK : Hid (NO w R Sk Bk (run (let0 100 (nP id ba bn bc bs)) k) wr) := hno
        have AN : Hid (AllN (fun _ b => b.length ≤ 140737488351232) (run (let0 100 (nP id ba bn bc bs)) (k + 1)) ∧ sz (run (let0 100 (nP id ba bn bc bs)) (k + 1)) ≤ 6 ∧ (tick (run (let0 100 (nP id ba bn bc bs)) k)).2 = [id] ∧ accT (run (let0 100 (nP id ba bn bc bs)) (k + 1)).ac id = 1 ∧ (tick (run (let0 100 (nP id ba bn bc bs)) k)).1 = run (let0 100 (nP id ba bn bc bs)) (k + 1)) := ⟨AB.out.run (k + 1), bnd.2.2, eids, eacc, rfl⟩
        clear LK LK1 eids eacc bnd hno tt ww
        go_wp2_with fail
        refine TK.out.mono ?_
        rintro e w5 ⟨a5, n5, c5, S5, rfl, r5, p5, x5⟩
        rw [AN.out.2.2.1] at r5
        obtain rfl : n5 = 1 := by
          obtain ⟨_, _, ev, -, -⟩ := (RowV.rd r5).len
          injection ev with _ ev _
        rw [AN.out.2.2.2.2] at p5
        have N5 : Hid (NO w R S5 Bk (run (let0 100 (nP id ba bn bc bs)) (k + 1)) w5 ∧ Rd w5 (.slice a5 1 c5) (([id] : List Int).map iv)) := ⟨HK.out.step p5, RowV.rd r5⟩
        have AC : Hid (Calls Try.prog 16 #[.pointer (some ⟨R, 0, none⟩)] w5 (AccAns (run (let0 100 (nP id ba bn bc bs)) (k + 1)) w5)) := accepted_at R S5 Bk _ w5 N5.out.1.net (by have := AN.out.2.1; unfold sz at this; omega) (fun a ha => AN.out.1.ac a ha)
        clear TK HK r5 p5 x5
        go_wp2_with fail
        refine AC.out.mono ?_
        rintro e w6 ⟨a6, n6, c6, ys, rfl, l6, q6, b6⟩
        have TO : Hid (Calls Try.prog 15 #[.slice a6 n6 c6, .int .i64 id] w6 fun e w' => e = .returned (.int .i64 1) ∧ w6 = w') := by
          have hl6 : ys.length ≤ 1000000000000 := by
            have e1 : ys.length = (run (let0 100 (nP id ba bn bc bs)) (k + 1)).ac.length := by have := congrArg List.length q6; simpa using this
            have := AN.out.2.1
            unfold sz at this
            omega
          have := tickOf_at ys id _ w6 hl6 (own_mono l6.row (Nat.zero_le _))
          rw [accT_core q6, AN.out.2.2.2.1] at this
          exact this
        have N6 : Hid (NO w R S5 Bk (run (let0 100 (nP id ba bn bc bs)) (k + 1)) w6 ∧ Rd w6 (.slice a5 1 c5) (([id] : List Int).map iv)) := ⟨N5.out.1.later b6, Rd.later N5.out.2 b6⟩
        have BA : Hid (Below w6.heap.size w6 (w6.alloc (.cells #[.int .i64 id] 3))) := below_alloc _ _
        have SI : Hid (Calls Try.prog 17 #[.slice a5 1 c5, .slice (some ⟨w6.heap.size, 0, none⟩) 1 1] (w6.alloc (.cells #[.int .i64 id] 3)) fun e w' => e = .returned (.bool true) ∧ ∃ n, w' = (w6.alloc (.cells #[.int .i64 id] 3)).drewN n) := by
          have := sameIDs_at [id] [id] _ _ (w6.alloc (.cells #[.int .i64 id] 3)) (by simp) (Rd.later N6.out.2 BA.out) (RowV.rd (row_new 3 [iv id] w6 (by show 1 ≤ maxLen; decide)))
          have eD : decide (([id] : List Int) = [id]) = true := by simp
          rw [eD] at this
          exact this
        clear N5 AC l6 q6 b6
        go_wp2_with fail
        refine TO.out.mono ?_
        rintro e _ ⟨rfl, rfl⟩
        go_wp2_with fail
        refine SI.out.mono ?_
        rintro e _ ⟨rfl, m7, rfl⟩
        have N7 : Hid (NO w R S5 Bk (run (let0 100 (nP id ba bn bc bs)) (k + 1)) ((w6.alloc (.cells #[.int .i64 id] 3)).drewN m7)) := (N6.out.1.later BA.out).drewN m7
        clear TO SI N6 BA AN
        go_wp2_with fail
        go_roundw
        case rel => exact ⟨k + 1, S5, Bk, by go_num, by omega, N7.out⟩
        case measure => simp [intOf]; omega
      · have g2 : ((k : Int) + 1 == 2) = false := by simpa using k1
        by_cases k2 : (k : Int) + 1 = 3
        · have g3 : ((k : Int) + 1 == 3) = true := by simpa using k2
          have tt : toldL 100 (k + 1) = true := by unfold toldL lateL copL; simp; omega
          clear k1 k2
          have LK := let_all 100 hF id ba bn bc bs k
          have LK1 := let_all 100 hF id ba bn bc bs (k + 1)
          have eids : (tick (run (let0 100 (nP id ba bn bc bs)) k)).2 = [id] := by rw [LK.ids, tt]; rfl
          have eacc : accT (run (let0 100 (nP id ba bn bc bs)) (k + 1)).ac id = 1 := by
            rw [LK1.ac]
            first | (rw [ww, if_pos rfl]; rfl) | (rw [ww, if_neg (by omega)]; exact (accOne (accA (nP id ba bn bc bs) (lateL 100)) id rfl).trans (by show ((lateL 100 : Nat) : Int) = _; rw [lL]; try rfl))
          have bnd : sz (run (let0 100 (nP id ba bn bc bs)) k) ≤ 6 ∧ (run (let0 100 (nP id ba bn bc bs)) k).now ≤ 12 ∧ sz (run (let0 100 (nP id ba bn bc bs)) (k + 1)) ≤ 6 := ⟨Nat.le_trans (run_sz _ SZ.out.2 k) SZ.out.1, by rw [run_now, NW0.out]; omega, Nat.le_trans (run_sz _ SZ.out.2 (k + 1)) SZ.out.1⟩
          have TK : Hid (Calls Try.prog 14 #[.pointer (some ⟨R, 0, none⟩)] wr (TickAns R Sk Bk (run (let0 100 (nP id ba bn bc bs)) k) wr)) := tick_at R Sk Bk _ wr hno.net (by omega) (by omega)
          have HK : Hid (NO w R Sk Bk (run (let0 100 (nP id ba bn bc bs)) k) wr) := hno
          have AN : Hid (AllN (fun _ b => b.length ≤ 140737488351232) (run (let0 100 (nP id ba bn bc bs)) (k + 1)) ∧ sz (run (let0 100 (nP id ba bn bc bs)) (k + 1)) ≤ 6 ∧ (tick (run (let0 100 (nP id ba bn bc bs)) k)).2 = [id] ∧ accT (run (let0 100 (nP id ba bn bc bs)) (k + 1)).ac id = 1 ∧ (tick (run (let0 100 (nP id ba bn bc bs)) k)).1 = run (let0 100 (nP id ba bn bc bs)) (k + 1)) := ⟨AB.out.run (k + 1), bnd.2.2, eids, eacc, rfl⟩
          clear LK LK1 eids eacc bnd hno tt ww
          go_wp2_with fail
          refine TK.out.mono ?_
          rintro e w5 ⟨a5, n5, c5, S5, rfl, r5, p5, x5⟩
          rw [AN.out.2.2.1] at r5
          obtain rfl : n5 = 1 := by
            obtain ⟨_, _, ev, -, -⟩ := (RowV.rd r5).len
            injection ev with _ ev _
          rw [AN.out.2.2.2.2] at p5
          have N5 : Hid (NO w R S5 Bk (run (let0 100 (nP id ba bn bc bs)) (k + 1)) w5 ∧ Rd w5 (.slice a5 1 c5) (([id] : List Int).map iv)) := ⟨HK.out.step p5, RowV.rd r5⟩
          have AC : Hid (Calls Try.prog 16 #[.pointer (some ⟨R, 0, none⟩)] w5 (AccAns (run (let0 100 (nP id ba bn bc bs)) (k + 1)) w5)) := accepted_at R S5 Bk _ w5 N5.out.1.net (by have := AN.out.2.1; unfold sz at this; omega) (fun a ha => AN.out.1.ac a ha)
          clear TK HK r5 p5 x5
          go_wp2_with fail
          refine AC.out.mono ?_
          rintro e w6 ⟨a6, n6, c6, ys, rfl, l6, q6, b6⟩
          have TO : Hid (Calls Try.prog 15 #[.slice a6 n6 c6, .int .i64 id] w6 fun e w' => e = .returned (.int .i64 1) ∧ w6 = w') := by
            have hl6 : ys.length ≤ 1000000000000 := by
              have e1 : ys.length = (run (let0 100 (nP id ba bn bc bs)) (k + 1)).ac.length := by have := congrArg List.length q6; simpa using this
              have := AN.out.2.1
              unfold sz at this
              omega
            have := tickOf_at ys id _ w6 hl6 (own_mono l6.row (Nat.zero_le _))
            rw [accT_core q6, AN.out.2.2.2.1] at this
            exact this
          have N6 : Hid (NO w R S5 Bk (run (let0 100 (nP id ba bn bc bs)) (k + 1)) w6 ∧ Rd w6 (.slice a5 1 c5) (([id] : List Int).map iv)) := ⟨N5.out.1.later b6, Rd.later N5.out.2 b6⟩
          have BA : Hid (Below w6.heap.size w6 (w6.alloc (.cells #[.int .i64 id] 3))) := below_alloc _ _
          have SI : Hid (Calls Try.prog 17 #[.slice a5 1 c5, .slice (some ⟨w6.heap.size, 0, none⟩) 1 1] (w6.alloc (.cells #[.int .i64 id] 3)) fun e w' => e = .returned (.bool true) ∧ ∃ n, w' = (w6.alloc (.cells #[.int .i64 id] 3)).drewN n) := by
            have := sameIDs_at [id] [id] _ _ (w6.alloc (.cells #[.int .i64 id] 3)) (by simp) (Rd.later N6.out.2 BA.out) (RowV.rd (row_new 3 [iv id] w6 (by show 1 ≤ maxLen; decide)))
            have eD : decide (([id] : List Int) = [id]) = true := by simp
            rw [eD] at this
            exact this
          clear N5 AC l6 q6 b6
          go_wp2_with fail
          refine TO.out.mono ?_
          rintro e _ ⟨rfl, rfl⟩
          go_wp2_with fail
          refine SI.out.mono ?_
          rintro e _ ⟨rfl, m7, rfl⟩
          have N7 : Hid (NO w R S5 Bk (run (let0 100 (nP id ba bn bc bs)) (k + 1)) ((w6.alloc (.cells #[.int .i64 id] 3)).drewN m7)) := (N6.out.1.later BA.out).drewN m7
          clear TO SI N6 BA AN
          go_wp2_with fail
          go_roundw
          case rel => exact ⟨k + 1, S5, Bk, by go_num, by omega, N7.out⟩
          case measure => simp [intOf]; omega
        · have g3 : ((k : Int) + 1 == 3) = false := by simpa using k2
          have tt : toldL 100 (k + 1) = false := by unfold toldL lateL copL; simp; omega
          clear k1 k2
          have LK := let_all 100 hF id ba bn bc bs k
          have LK1 := let_all 100 hF id ba bn bc bs (k + 1)
          have eids : (tick (run (let0 100 (nP id ba bn bc bs)) k)).2 = [] := by rw [LK.ids, tt]; rfl
          have eacc : accT (run (let0 100 (nP id ba bn bc bs)) (k + 1)).ac id = 1 := by
            rw [LK1.ac]
            first | (rw [ww, if_pos rfl]; rfl) | (rw [ww, if_neg (by omega)]; exact (accOne (accA (nP id ba bn bc bs) (lateL 100)) id rfl).trans (by show ((lateL 100 : Nat) : Int) = _; rw [lL]; try rfl))
          have bnd : sz (run (let0 100 (nP id ba bn bc bs)) k) ≤ 6 ∧ (run (let0 100 (nP id ba bn bc bs)) k).now ≤ 12 ∧ sz (run (let0 100 (nP id ba bn bc bs)) (k + 1)) ≤ 6 := ⟨Nat.le_trans (run_sz _ SZ.out.2 k) SZ.out.1, by rw [run_now, NW0.out]; omega, Nat.le_trans (run_sz _ SZ.out.2 (k + 1)) SZ.out.1⟩
          have TK : Hid (Calls Try.prog 14 #[.pointer (some ⟨R, 0, none⟩)] wr (TickAns R Sk Bk (run (let0 100 (nP id ba bn bc bs)) k) wr)) := tick_at R Sk Bk _ wr hno.net (by omega) (by omega)
          have HK : Hid (NO w R Sk Bk (run (let0 100 (nP id ba bn bc bs)) k) wr) := hno
          have AN : Hid (AllN (fun _ b => b.length ≤ 140737488351232) (run (let0 100 (nP id ba bn bc bs)) (k + 1)) ∧ sz (run (let0 100 (nP id ba bn bc bs)) (k + 1)) ≤ 6 ∧ (tick (run (let0 100 (nP id ba bn bc bs)) k)).2 = [] ∧ accT (run (let0 100 (nP id ba bn bc bs)) (k + 1)).ac id = 1 ∧ (tick (run (let0 100 (nP id ba bn bc bs)) k)).1 = run (let0 100 (nP id ba bn bc bs)) (k + 1)) := ⟨AB.out.run (k + 1), bnd.2.2, eids, eacc, rfl⟩
          clear LK LK1 eids eacc bnd hno tt ww
          go_wp2_with fail
          refine TK.out.mono ?_
          rintro e w5 ⟨a5, n5, c5, S5, rfl, r5, p5, x5⟩
          rw [AN.out.2.2.1] at r5
          obtain rfl : n5 = 0 := by
            obtain ⟨_, _, ev, -, -⟩ := (RowV.rd r5).len
            injection ev with _ ev _
          rw [AN.out.2.2.2.2] at p5
          have N5 : Hid (NO w R S5 Bk (run (let0 100 (nP id ba bn bc bs)) (k + 1)) w5 ∧ Rd w5 (.slice a5 0 c5) (([] : List Int).map iv)) := ⟨HK.out.step p5, RowV.rd r5⟩
          have AC : Hid (Calls Try.prog 16 #[.pointer (some ⟨R, 0, none⟩)] w5 (AccAns (run (let0 100 (nP id ba bn bc bs)) (k + 1)) w5)) := accepted_at R S5 Bk _ w5 N5.out.1.net (by have := AN.out.2.1; unfold sz at this; omega) (fun a ha => AN.out.1.ac a ha)
          clear TK HK r5 p5 x5
          go_wp2_with fail
          refine AC.out.mono ?_
          rintro e w6 ⟨a6, n6, c6, ys, rfl, l6, q6, b6⟩
          have TO : Hid (Calls Try.prog 15 #[.slice a6 n6 c6, .int .i64 id] w6 fun e w' => e = .returned (.int .i64 1) ∧ w6 = w') := by
            have hl6 : ys.length ≤ 1000000000000 := by
              have e1 : ys.length = (run (let0 100 (nP id ba bn bc bs)) (k + 1)).ac.length := by have := congrArg List.length q6; simpa using this
              have := AN.out.2.1
              unfold sz at this
              omega
            have := tickOf_at ys id _ w6 hl6 (own_mono l6.row (Nat.zero_le _))
            rw [accT_core q6, AN.out.2.2.2.1] at this
            exact this
          have N6 : Hid (NO w R S5 Bk (run (let0 100 (nP id ba bn bc bs)) (k + 1)) w6 ∧ Rd w6 (.slice a5 0 c5) (([] : List Int).map iv)) := ⟨N5.out.1.later b6, Rd.later N5.out.2 b6⟩
          have BA : Hid (Below w6.heap.size w6 (w6.alloc (.cells #[.int .i64 id] 3))) := below_alloc _ _
          have SI : Hid (Calls Try.prog 17 #[.slice a5 0 c5, .slice (some ⟨w6.heap.size, 0, none⟩) 1 1] (w6.alloc (.cells #[.int .i64 id] 3)) fun e w' => e = .returned (.bool false) ∧ ∃ n, w' = (w6.alloc (.cells #[.int .i64 id] 3)).drewN n) := by
            have := sameIDs_at [] [id] _ _ (w6.alloc (.cells #[.int .i64 id] 3)) (by simp) (Rd.later N6.out.2 BA.out) (RowV.rd (row_new 3 [iv id] w6 (by show 1 ≤ maxLen; decide)))
            have eD : decide (([] : List Int) = [id]) = false := by simp
            rw [eD] at this
            exact this
          clear N5 AC l6 q6 b6
          go_wp2_with fail
          refine TO.out.mono ?_
          rintro e _ ⟨rfl, rfl⟩
          go_wp2_with fail
          refine SI.out.mono ?_
          rintro e _ ⟨rfl, m7, rfl⟩
          have N7 : Hid (NO w R S5 Bk (run (let0 100 (nP id ba bn bc bs)) (k + 1)) ((w6.alloc (.cells #[.int .i64 id] 3)).drewN m7)) := (N6.out.1.later BA.out).drewN m7
          clear TO SI N6 BA AN
          go_wp2_with fail
          go_roundw
          case rel => exact ⟨k + 1, S5, Bk, by go_num, by omega, N7.out⟩
          case measure => simp [intOf]; omega

    · have d12 : decide ((k : Int) + 1 ≤ 12) = false := decide_eq_false hlt
      obtain rfl : k = 12 := by omega
      have FL : Hid (Calls Try.prog 13 #[.pointer (some ⟨R, 0, none⟩)] wr fun e w' => e = .returned (.int .i64 0) ∧ wr = w') := by
        have := flying_at R Sk Bk _ wr hno.net (by have := run_sz _ SZ.out.2 12; have := SZ.out.1; omega)
        rw [(let_all 100 hF id ba bn bc bs 12).fl (by omega)] at this
        exact this
      have FB : Hid (Below w.heap.size w wr) := hno.below
      clear hno
      go_wp2_with fail
      refine FL.out.mono ?_
      rintro e _ ⟨rfl, rfl⟩
      go_wp2_with fail
      go_ret
      exact ⟨rfl, FB.out⟩
set_option maxRecDepth 40000 in
set_option maxHeartbeats 4000000 in
theorem letters_n (c d : Nat) (h1 : 1 ≤ d) (h9 : d ≤ 9) (hcd : c = 48 + d) (id : Int) (a : Option Addr) (n cp : Nat) (bs : List Nat) (w : World) (hr : RdB w (.slice a n cp) bs) (hl : bs.length ≤ 140737488351232) :
    Calls Try.prog 3 #[.int .u8 ((c : Nat) : Int), .int .i64 id, .slice a n cp] w fun e w' => e = .returned (.bool true) ∧ Below w.heap.size w w' := by
  have NW : Hid (Calls Try.prog 9 #[] w (NewN w)) := new_at w
  have RD : Hid (RdB w (.slice a n cp) bs) := hr
  clear hr
  have hc : c < 256 := by omega
  have hF : isF c := .inr (.inr ⟨by omega, by omega⟩)
  have cN : copL c = 1 := by unfold copL; rw [if_neg (by omega), if_neg (by omega)]
  have lL : lateL c = d := by unfold lateL; rw [if_neg (by omega), if_neg (by omega)]; omega
  have e1 : (((c : Nat) : Int) == 120) = false := by simp; omega
  have e2 : (((c : Nat) : Int) == 100) = false := by simp; omega
  have e3 : decide (((c : Nat) : Int) ≥ 49) = true := decide_eq_true (by omega)
  have e3' : decide ((49 : Int) ≤ ((c : Nat) : Int)) = true := decide_eq_true (by omega)
  have e4 : decide (((c : Nat) : Int) ≤ 57) = true := decide_eq_true (by omega)
  have e5 : IntKind.u8.wrap (((c : Nat) : Int) - 48) = (d : Int) := by rw [IntKind.wrap_u8]; omega
  have HCD : Hid (c = 48 + d) := hcd
  clear hcd
  go_enter Try.func3, Try.ntmps3
  go_wp2_with fail
  refine NW.out.mono ?_
  intro e w1 h1
  obtain ⟨R, S, rfl, n1⟩ := NO.new h1
  have N1 : Hid (NO w R S (fun _ => False) nt0 w1) := n1
  have cv : (convert 22 9 (.slice (some ⟨w1.heap.size, 0, none⟩) 1 1)).run Try.prog (w1.alloc (.cells #[.int .u8 ((c : Nat) : Int)] 5)) = .ok (.string (strOf c)) (w1.alloc (.cells #[.int .u8 ((c : Nat) : Int)] 5)) := one_str hc w1
  have FA : Hid (Calls Try.prog 10 #[.pointer (some ⟨R, 0, none⟩), .string (strOf c)] (w1.alloc (.cells #[.int .u8 ((c : Nat) : Int)] 5)) fun e w' => e = .returned (.int .i64 0) ∧ ∃ S', NPost R S (fun _ => False) (w1.alloc (.cells #[.int .u8 ((c : Nat) : Int)] 5)) { nt0 with fs := [c] } S' (fun _ => False) w') := by
    have q := fateC_one (strOf_bytes hc) hF
    have := fate_at R S (fun _ => False) nt0 (strOf c) (w1.alloc (.cells #[.int .u8 ((c : Nat) : Int)] 5)) (n1.net.below (below_alloc _ _)) (by decide)
    rw [q.1, q.2] at this
    exact this
  clear h1 n1 NW
  go_upto_region 14 with fail
  have cL : ((copL c : Nat) : Int) = 1 := by rw [cN]; rfl
  have B1 : Hid (Below w1.heap.size w1 (w1.alloc (.cells #[.int .u8 ((c : Nat) : Int)] 5))) := below_alloc _ _
  go_wp2_with fail
  refine FA.out.mono ?_
  rintro e w2 ⟨rfl, S2, p2⟩
  have N2 : Hid (NO w R S2 (fun _ => False) { nt0 with fs := [c] } w2) := (N1.out.later B1.out).step p2
  have CP : Hid (Calls Try.prog 12 #[.slice a n cp] w2 (NewS w2 bs)) := copied_at bs _ w2 hl (Rd.later RD.out N2.out.below)
  clear FA p2 N1 B1 cv
  go_wp2_with fail
  refine CP.out.mono ?_
  rintro e w3 ⟨a3, n3, c3, rfl, r3, b3⟩
  have N3 : Hid (NO w R S2 (fun _ => False) { nt0 with fs := [c] } w3) := N2.out.later b3
  have SN : Hid (Calls Try.prog 11 #[.pointer (some ⟨R, 0, none⟩), .agg #[.bool false, .int .i64 id, .slice a3 n3 c3]] w3 (SendAns R S2 (fun _ => False) { nt0 with fs := [c] } id bs w3)) := send_at R S2 _ _ false id a3 n3 c3 bs w3 N3.out.net (RowV.rd r3) hl (by show (0 : Nat) ≤ 999999999000; decide) (by show (0 : Nat) ≤ 999999999000; decide)
  clear CP r3 b3 N2
  go_wp2_with fail
  refine SN.out.mono ?_
  rintro e w4 ⟨rfl, S4, B4, p, p4, pa, pi, pb⟩
  rw [let0_eq c p pa, pi, pb] at p4
  obtain ⟨ba, bn, bc, hp⟩ : ∃ ba bn bc, nP id p.ba p.bn p.bc bs = nP id ba bn bc bs := ⟨_, _, _, rfl⟩
  rw [hp] at p4
  have N4 : Hid (NO w R S4 B4 (let0 c (nP id ba bn bc bs)) w4) := N3.out.step p4
  have SZ : Hid (sz (let0 c (nP id ba bn bc bs)) ≤ 6 ∧ (let0 c (nP id ba bn bc bs)).fl.length = 10) := ⟨hand_sz _ _ rfl, hand_len _ _⟩
  have NW0 : Hid ((let0 c (nP id ba bn bc bs)).now = 0) := hand_now _ _
  have AB : Hid (AllN (fun _ b => b.length ≤ 140737488351232) (let0 c (nP id ba bn bc bs))) := let0_all _ _ _ _ _ _ hl
  have FL : Hid (Calls Try.prog 13 #[.pointer (some ⟨R, 0, none⟩)] w4 fun e w' => e = .returned (.int .i64 1) ∧ w4 = w') := by
    have := flying_at R S4 B4 _ w4 N4.out.net (by have := SZ.out.1; omega)
    rw [let_fly c hF, cL] at this
    exact this
  clear SN p4 pa pi pb hp N3
  go_wp2_with fail
  refine FL.out.mono ?_
  rintro e _ ⟨rfl, rfl⟩
  clear FL
  go_wp2_with fail
  go_loopw [10] (fun vk wr => ∃ k : Nat, ∃ Sk Bk, vk = .int .i64 ((k : Int) + 1) ∧ k ≤ 12 ∧ NO w R Sk Bk (run (let0 c (nP id ba bn bc bs)) k) wr) (fun vk _ => 13 - (intOf vk).toNat)
  case atStart => exact ⟨0, S4, B4, rfl, by omega, N4.out⟩
  case round =>
    obtain ⟨k, Sk, Bk, rfl, hk, hno⟩ := hrel
    by_cases hlt : (k : Int) + 1 ≤ 12
    · have d12 : decide ((k : Int) + 1 ≤ 12) = true := decide_eq_true hlt
      by_cases k0 : (d : Int) ≤ (k : Int) + 1
      · have g1 : decide ((d : Int) ≤ (k : Int) + 1) = true := decide_eq_true k0
        have ww : wantL c (k + 1) = d := by unfold wantL; rw [cN, lL, if_pos ⟨by omega, by omega⟩]
        by_cases k1 : (k : Int) + 1 = (d : Int) + 1
        · have g2 : ((k : Int) + 1 == (d : Int) + 1) = true := by simpa using k1
          have tt : toldL c (k + 1) = true := by unfold toldL; rw [cN, lL]; simp; omega
          clear k0 k1
          have LK := let_all c hF id ba bn bc bs k
          have LK1 := let_all c hF id ba bn bc bs (k + 1)
          have eids : (tick (run (let0 c (nP id ba bn bc bs)) k)).2 = [id] := by rw [LK.ids, tt]; rfl
          have eacc : accT (run (let0 c (nP id ba bn bc bs)) (k + 1)).ac id = (d : Int) := by
            rw [LK1.ac]
            first | (rw [ww, if_pos rfl]; rfl) | (rw [ww, if_neg (by omega)]; exact (accOne (accA (nP id ba bn bc bs) (lateL c)) id rfl).trans (by show ((lateL c : Nat) : Int) = _; rw [lL]; try rfl))
          have bnd : sz (run (let0 c (nP id ba bn bc bs)) k) ≤ 6 ∧ (run (let0 c (nP id ba bn bc bs)) k).now ≤ 12 ∧ sz (run (let0 c (nP id ba bn bc bs)) (k + 1)) ≤ 6 := ⟨Nat.le_trans (run_sz _ SZ.out.2 k) SZ.out.1, by rw [run_now, NW0.out]; omega, Nat.le_trans (run_sz _ SZ.out.2 (k + 1)) SZ.out.1⟩
          have TK : Hid (Calls Try.prog 14 #[.pointer (some ⟨R, 0, none⟩)] wr (TickAns R Sk Bk (run (let0 c (nP id ba bn bc bs)) k) wr)) := tick_at R Sk Bk _ wr hno.net (by omega) (by omega)
          have HK : Hid (NO w R Sk Bk (run (let0 c (nP id ba bn bc bs)) k) wr) := hno
          have AN : Hid (AllN (fun _ b => b.length ≤ 140737488351232) (run (let0 c (nP id ba bn bc bs)) (k + 1)) ∧ sz (run (let0 c (nP id ba bn bc bs)) (k + 1)) ≤ 6 ∧ (tick (run (let0 c (nP id ba bn bc bs)) k)).2 = [id] ∧ accT (run (let0 c (nP id ba bn bc bs)) (k + 1)).ac id = (d : Int) ∧ (tick (run (let0 c (nP id ba bn bc bs)) k)).1 = run (let0 c (nP id ba bn bc bs)) (k + 1)) := ⟨AB.out.run (k + 1), bnd.2.2, eids, eacc, rfl⟩
          clear LK LK1 eids eacc bnd hno tt ww
          go_wp2_with fail
          refine TK.out.mono ?_
          rintro e w5 ⟨a5, n5, c5, S5, rfl, r5, p5, x5⟩
          rw [AN.out.2.2.1] at r5
          obtain rfl : n5 = 1 := by
            obtain ⟨_, _, ev, -, -⟩ := (RowV.rd r5).len
            injection ev with _ ev _
          rw [AN.out.2.2.2.2] at p5
          have N5 : Hid (NO w R S5 Bk (run (let0 c (nP id ba bn bc bs)) (k + 1)) w5 ∧ Rd w5 (.slice a5 1 c5) (([id] : List Int).map iv)) := ⟨HK.out.step p5, RowV.rd r5⟩
          have AC : Hid (Calls Try.prog 16 #[.pointer (some ⟨R, 0, none⟩)] w5 (AccAns (run (let0 c (nP id ba bn bc bs)) (k + 1)) w5)) := accepted_at R S5 Bk _ w5 N5.out.1.net (by have := AN.out.2.1; unfold sz at this; omega) (fun a ha => AN.out.1.ac a ha)
          clear TK HK r5 p5 x5
          go_wp2_with fail
          refine AC.out.mono ?_
          rintro e w6 ⟨a6, n6, c6, ys, rfl, l6, q6, b6⟩
          have TO : Hid (Calls Try.prog 15 #[.slice a6 n6 c6, .int .i64 id] w6 fun e w' => e = .returned (.int .i64 (d : Int)) ∧ w6 = w') := by
            have hl6 : ys.length ≤ 1000000000000 := by
              have e1 : ys.length = (run (let0 c (nP id ba bn bc bs)) (k + 1)).ac.length := by have := congrArg List.length q6; simpa using this
              have := AN.out.2.1
              unfold sz at this
              omega
            have := tickOf_at ys id _ w6 hl6 (own_mono l6.row (Nat.zero_le _))
            rw [accT_core q6, AN.out.2.2.2.1] at this
            exact this
          have N6 : Hid (NO w R S5 Bk (run (let0 c (nP id ba bn bc bs)) (k + 1)) w6 ∧ Rd w6 (.slice a5 1 c5) (([id] : List Int).map iv)) := ⟨N5.out.1.later b6, Rd.later N5.out.2 b6⟩
          have BA : Hid (Below w6.heap.size w6 (w6.alloc (.cells #[.int .i64 id] 3))) := below_alloc _ _
          have SI : Hid (Calls Try.prog 17 #[.slice a5 1 c5, .slice (some ⟨w6.heap.size, 0, none⟩) 1 1] (w6.alloc (.cells #[.int .i64 id] 3)) fun e w' => e = .returned (.bool true) ∧ ∃ n, w' = (w6.alloc (.cells #[.int .i64 id] 3)).drewN n) := by
            have := sameIDs_at [id] [id] _ _ (w6.alloc (.cells #[.int .i64 id] 3)) (by simp) (Rd.later N6.out.2 BA.out) (RowV.rd (row_new 3 [iv id] w6 (by show 1 ≤ maxLen; decide)))
            have eD : decide (([id] : List Int) = [id]) = true := by simp
            rw [eD] at this
            exact this
          clear N5 AC l6 q6 b6
          go_wp2_with fail
          refine TO.out.mono ?_
          rintro e _ ⟨rfl, rfl⟩
          go_wp2_with fail
          refine SI.out.mono ?_
          rintro e _ ⟨rfl, m7, rfl⟩
          have N7 : Hid (NO w R S5 Bk (run (let0 c (nP id ba bn bc bs)) (k + 1)) ((w6.alloc (.cells #[.int .i64 id] 3)).drewN m7)) := (N6.out.1.later BA.out).drewN m7
          clear TO SI N6 BA AN
          go_wp2_with fail
          go_roundw
          case rel => exact ⟨k + 1, S5, Bk, by go_num, by omega, N7.out⟩
          case measure => simp [intOf]; omega
        · have g2 : ((k : Int) + 1 == (d : Int) + 1) = false := by simpa using k1
          have tt : toldL c (k + 1) = false := by unfold toldL; rw [cN, lL]; simp; omega
          clear k0 k1
          have LK := let_all c hF id ba bn bc bs k
          have LK1 := let_all c hF id ba bn bc bs (k + 1)
          have eids : (tick (run (let0 c (nP id ba bn bc bs)) k)).2 = [] := by rw [LK.ids, tt]; rfl
          have eacc : accT (run (let0 c (nP id ba bn bc bs)) (k + 1)).ac id = (d : Int) := by
            rw [LK1.ac]
            first | (rw [ww, if_pos rfl]; rfl) | (rw [ww, if_neg (by omega)]; exact (accOne (accA (nP id ba bn bc bs) (lateL c)) id rfl).trans (by show ((lateL c : Nat) : Int) = _; rw [lL]; try rfl))
          have bnd : sz (run (let0 c (nP id ba bn bc bs)) k) ≤ 6 ∧ (run (let0 c (nP id ba bn bc bs)) k).now ≤ 12 ∧ sz (run (let0 c (nP id ba bn bc bs)) (k + 1)) ≤ 6 := ⟨Nat.le_trans (run_sz _ SZ.out.2 k) SZ.out.1, by rw [run_now, NW0.out]; omega, Nat.le_trans (run_sz _ SZ.out.2 (k + 1)) SZ.out.1⟩
          have TK : Hid (Calls Try.prog 14 #[.pointer (some ⟨R, 0, none⟩)] wr (TickAns R Sk Bk (run (let0 c (nP id ba bn bc bs)) k) wr)) := tick_at R Sk Bk _ wr hno.net (by omega) (by omega)
          have HK : Hid (NO w R Sk Bk (run (let0 c (nP id ba bn bc bs)) k) wr) := hno
          have AN : Hid (AllN (fun _ b => b.length ≤ 140737488351232) (run (let0 c (nP id ba bn bc bs)) (k + 1)) ∧ sz (run (let0 c (nP id ba bn bc bs)) (k + 1)) ≤ 6 ∧ (tick (run (let0 c (nP id ba bn bc bs)) k)).2 = [] ∧ accT (run (let0 c (nP id ba bn bc bs)) (k + 1)).ac id = (d : Int) ∧ (tick (run (let0 c (nP id ba bn bc bs)) k)).1 = run (let0 c (nP id ba bn bc bs)) (k + 1)) := ⟨AB.out.run (k + 1), bnd.2.2, eids, eacc, rfl⟩
          clear LK LK1 eids eacc bnd hno tt ww
          go_wp2_with fail
          refine TK.out.mono ?_
          rintro e w5 ⟨a5, n5, c5, S5, rfl, r5, p5, x5⟩
          rw [AN.out.2.2.1] at r5
          obtain rfl : n5 = 0 := by
            obtain ⟨_, _, ev, -, -⟩ := (RowV.rd r5).len
            injection ev with _ ev _
          rw [AN.out.2.2.2.2] at p5
          have N5 : Hid (NO w R S5 Bk (run (let0 c (nP id ba bn bc bs)) (k + 1)) w5 ∧ Rd w5 (.slice a5 0 c5) (([] : List Int).map iv)) := ⟨HK.out.step p5, RowV.rd r5⟩
          have AC : Hid (Calls Try.prog 16 #[.pointer (some ⟨R, 0, none⟩)] w5 (AccAns (run (let0 c (nP id ba bn bc bs)) (k + 1)) w5)) := accepted_at R S5 Bk _ w5 N5.out.1.net (by have := AN.out.2.1; unfold sz at this; omega) (fun a ha => AN.out.1.ac a ha)
          clear TK HK r5 p5 x5
          go_wp2_with fail
          refine AC.out.mono ?_
          rintro e w6 ⟨a6, n6, c6, ys, rfl, l6, q6, b6⟩
          have TO : Hid (Calls Try.prog 15 #[.slice a6 n6 c6, .int .i64 id] w6 fun e w' => e = .returned (.int .i64 (d : Int)) ∧ w6 = w') := by
            have hl6 : ys.length ≤ 1000000000000 := by
              have e1 : ys.length = (run (let0 c (nP id ba bn bc bs)) (k + 1)).ac.length := by have := congrArg List.length q6; simpa using this
              have := AN.out.2.1
              unfold sz at this
              omega
            have := tickOf_at ys id _ w6 hl6 (own_mono l6.row (Nat.zero_le _))
            rw [accT_core q6, AN.out.2.2.2.1] at this
            exact this
          have N6 : Hid (NO w R S5 Bk (run (let0 c (nP id ba bn bc bs)) (k + 1)) w6 ∧ Rd w6 (.slice a5 0 c5) (([] : List Int).map iv)) := ⟨N5.out.1.later b6, Rd.later N5.out.2 b6⟩
          have BA : Hid (Below w6.heap.size w6 (w6.alloc (.cells #[.int .i64 id] 3))) := below_alloc _ _
          have SI : Hid (Calls Try.prog 17 #[.slice a5 0 c5, .slice (some ⟨w6.heap.size, 0, none⟩) 1 1] (w6.alloc (.cells #[.int .i64 id] 3)) fun e w' => e = .returned (.bool false) ∧ ∃ n, w' = (w6.alloc (.cells #[.int .i64 id] 3)).drewN n) := by
            have := sameIDs_at [] [id] _ _ (w6.alloc (.cells #[.int .i64 id] 3)) (by simp) (Rd.later N6.out.2 BA.out) (RowV.rd (row_new 3 [iv id] w6 (by show 1 ≤ maxLen; decide)))
            have eD : decide (([] : List Int) = [id]) = false := by simp
            rw [eD] at this
            exact this
          clear N5 AC l6 q6 b6
          go_wp2_with fail
          refine TO.out.mono ?_
          rintro e _ ⟨rfl, rfl⟩
          go_wp2_with fail
          refine SI.out.mono ?_
          rintro e _ ⟨rfl, m7, rfl⟩
          have N7 : Hid (NO w R S5 Bk (run (let0 c (nP id ba bn bc bs)) (k + 1)) ((w6.alloc (.cells #[.int .i64 id] 3)).drewN m7)) := (N6.out.1.later BA.out).drewN m7
          clear TO SI N6 BA AN
          go_wp2_with fail
          go_roundw
          case rel => exact ⟨k + 1, S5, Bk, by go_num, by omega, N7.out⟩
          case measure => simp [intOf]; omega
      · have g1 : decide ((d : Int) ≤ (k : Int) + 1) = false := decide_eq_false k0
        have ww : wantL c (k + 1) = 0 := by unfold wantL; rw [cN, lL, if_neg (fun q => k0 (by omega))]
        have g2 : ((k : Int) + 1 == (d : Int) + 1) = false := by simp; omega
        have tt : toldL c (k + 1) = false := by unfold toldL; rw [cN, lL]; simp; omega
        clear k0
        have LK := let_all c hF id ba bn bc bs k
        have LK1 := let_all c hF id ba bn bc bs (k + 1)
        have eids : (tick (run (let0 c (nP id ba bn bc bs)) k)).2 = [] := by rw [LK.ids, tt]; rfl
        have eacc : accT (run (let0 c (nP id ba bn bc bs)) (k + 1)).ac id = 0 := by
          rw [LK1.ac]
          first | (rw [ww, if_pos rfl]; rfl) | (rw [ww, if_neg (by omega)]; exact (accOne (accA (nP id ba bn bc bs) (lateL c)) id rfl).trans (by show ((lateL c : Nat) : Int) = _; rw [lL]; try rfl))
        have bnd : sz (run (let0 c (nP id ba bn bc bs)) k) ≤ 6 ∧ (run (let0 c (nP id ba bn bc bs)) k).now ≤ 12 ∧ sz (run (let0 c (nP id ba bn bc bs)) (k + 1)) ≤ 6 := ⟨Nat.le_trans (run_sz _ SZ.out.2 k) SZ.out.1, by rw [run_now, NW0.out]; omega, Nat.le_trans (run_sz _ SZ.out.2 (k + 1)) SZ.out.1⟩
        have TK : Hid (Calls Try.prog 14 #[.pointer (some ⟨R, 0, none⟩)] wr (TickAns R Sk Bk (run (let0 c (nP id ba bn bc bs)) k) wr)) := tick_at R Sk Bk _ wr hno.net (by omega) (by omega)
        have HK : Hid (NO w R Sk Bk (run (let0 c (nP id ba bn bc bs)) k) wr) := hno
        have AN : Hid (AllN (fun _ b => b.length ≤ 140737488351232) (run (let0 c (nP id ba bn bc bs)) (k + 1)) ∧ sz (run (let0 c (nP id ba bn bc bs)) (k + 1)) ≤ 6 ∧ (tick (run (let0 c (nP id ba bn bc bs)) k)).2 = [] ∧ accT (run (let0 c (nP id ba bn bc bs)) (k + 1)).ac id = 0 ∧ (tick (run (let0 c (nP id ba bn bc bs)) k)).1 = run (let0 c (nP id ba bn bc bs)) (k + 1)) := ⟨AB.out.run (k + 1), bnd.2.2, eids, eacc, rfl⟩
        clear LK LK1 eids eacc bnd hno tt ww
        go_wp2_with fail
        refine TK.out.mono ?_
        rintro e w5 ⟨a5, n5, c5, S5, rfl, r5, p5, x5⟩
        rw [AN.out.2.2.1] at r5
        obtain rfl : n5 = 0 := by
          obtain ⟨_, _, ev, -, -⟩ := (RowV.rd r5).len
          injection ev with _ ev _
        rw [AN.out.2.2.2.2] at p5
        have N5 : Hid (NO w R S5 Bk (run (let0 c (nP id ba bn bc bs)) (k + 1)) w5 ∧ Rd w5 (.slice a5 0 c5) (([] : List Int).map iv)) := ⟨HK.out.step p5, RowV.rd r5⟩
        have AC : Hid (Calls Try.prog 16 #[.pointer (some ⟨R, 0, none⟩)] w5 (AccAns (run (let0 c (nP id ba bn bc bs)) (k + 1)) w5)) := accepted_at R S5 Bk _ w5 N5.out.1.net (by have := AN.out.2.1; unfold sz at this; omega) (fun a ha => AN.out.1.ac a ha)
        clear TK HK r5 p5 x5
        go_wp2_with fail
        refine AC.out.mono ?_
        rintro e w6 ⟨a6, n6, c6, ys, rfl, l6, q6, b6⟩
        have TO : Hid (Calls Try.prog 15 #[.slice a6 n6 c6, .int .i64 id] w6 fun e w' => e = .returned (.int .i64 0) ∧ w6 = w') := by
          have hl6 : ys.length ≤ 1000000000000 := by
            have e1 : ys.length = (run (let0 c (nP id ba bn bc bs)) (k + 1)).ac.length := by have := congrArg List.length q6; simpa using this
            have := AN.out.2.1
            unfold sz at this
            omega
          have := tickOf_at ys id _ w6 hl6 (own_mono l6.row (Nat.zero_le _))
          rw [accT_core q6, AN.out.2.2.2.1] at this
          exact this
        have N6 : Hid (NO w R S5 Bk (run (let0 c (nP id ba bn bc bs)) (k + 1)) w6 ∧ Rd w6 (.slice a5 0 c5) (([] : List Int).map iv)) := ⟨N5.out.1.later b6, Rd.later N5.out.2 b6⟩
        have BA : Hid (Below w6.heap.size w6 (w6.alloc (.cells #[.int .i64 id] 3))) := below_alloc _ _
        have SI : Hid (Calls Try.prog 17 #[.slice a5 0 c5, .slice (some ⟨w6.heap.size, 0, none⟩) 1 1] (w6.alloc (.cells #[.int .i64 id] 3)) fun e w' => e = .returned (.bool false) ∧ ∃ n, w' = (w6.alloc (.cells #[.int .i64 id] 3)).drewN n) := by
          have := sameIDs_at [] [id] _ _ (w6.alloc (.cells #[.int .i64 id] 3)) (by simp) (Rd.later N6.out.2 BA.out) (RowV.rd (row_new 3 [iv id] w6 (by show 1 ≤ maxLen; decide)))
          have eD : decide (([] : List Int) = [id]) = false := by simp
          rw [eD] at this
          exact this
        clear N5 AC l6 q6 b6
        go_wp2_with fail
        refine TO.out.mono ?_
        rintro e _ ⟨rfl, rfl⟩
        go_wp2_with fail
        refine SI.out.mono ?_
        rintro e _ ⟨rfl, m7, rfl⟩
        have N7 : Hid (NO w R S5 Bk (run (let0 c (nP id ba bn bc bs)) (k + 1)) ((w6.alloc (.cells #[.int .i64 id] 3)).drewN m7)) := (N6.out.1.later BA.out).drewN m7
        clear TO SI N6 BA AN
        go_wp2_with fail
        go_roundw
        case rel => exact ⟨k + 1, S5, Bk, by go_num, by omega, N7.out⟩
        case measure => simp [intOf]; omega

    · have d12 : decide ((k : Int) + 1 ≤ 12) = false := decide_eq_false hlt
      obtain rfl : k = 12 := by omega
      have FL : Hid (Calls Try.prog 13 #[.pointer (some ⟨R, 0, none⟩)] wr fun e w' => e = .returned (.int .i64 0) ∧ wr = w') := by
        have := flying_at R Sk Bk _ wr hno.net (by have := run_sz _ SZ.out.2 12; have := SZ.out.1; omega)
        rw [(let_all c hF id ba bn bc bs 12).fl (by omega)] at this
        exact this
      have FB : Hid (Below w.heap.size w wr) := hno.below
      clear hno
      go_wp2_with fail
      refine FL.out.mono ?_
      rintro e _ ⟨rfl, rfl⟩
      go_wp2_with fail
      go_ret
      exact ⟨rfl, FB.out⟩
set_option maxRecDepth 40000 in
set_option maxHeartbeats 4000000 in
theorem letters_no (c : Nat) (id : Int) (a : Option Addr) (n cp : Nat) (w : World) (hc : c < 256) (hF : ¬ isF c) :
    Calls Try.prog 3 #[.int .u8 ((c : Nat) : Int), .int .i64 id, .slice a n cp] w fun e w' => e = .returned (.bool true) ∧ Below w.heap.size w w' := by
  have NW : Hid (Calls Try.prog 9 #[] w (NewN w)) := new_at w
  have HF : Hid (¬ isF c) := hF
  have e1 : (((c : Nat) : Int) == 120) = false := by simp; intro h; exact hF (.inl (by omega))
  have e2 : (((c : Nat) : Int) == 100) = false := by simp; intro h; exact hF (.inr (.inl (by omega)))
  have key : 49 ≤ c → ¬ c ≤ 57 := fun h1 h2 => hF (.inr (.inr ⟨h1, h2⟩))
  clear hF
  by_cases h49 : (49 : Int) ≤ ((c : Nat) : Int)
  · have e3 : decide ((49 : Int) ≤ ((c : Nat) : Int)) = true := decide_eq_true h49
    have e4 : decide (((c : Nat) : Int) ≤ 57) = false := decide_eq_false (by have := key (by omega); omega)
    clear key h49
    go_enter Try.func3, Try.ntmps3
    go_wp2_with fail
    refine NW.out.mono ?_
    intro e w1 h1
    obtain ⟨R, S, rfl, n1⟩ := NO.new h1
    have N1 : Hid (NO w R S (fun _ => False) nt0 w1) := n1
    have cv := one_str hc w1
    have FA : Hid (Calls Try.prog 10 #[.pointer (some ⟨R, 0, none⟩), .string (strOf c)] (w1.alloc (.cells #[.int .u8 ((c : Nat) : Int)] 5)) fun e w' => e = .returned (.int .i64 160) ∧ ∃ S', NPost R S (fun _ => False) (w1.alloc (.cells #[.int .u8 ((c : Nat) : Int)] 5)) (fateT nt0 (strOf c)) S' (fun _ => False) w') := by
      have q := fateC_bad (strOf_bytes hc) HF.out
      have := fate_at R S (fun _ => False) nt0 (strOf c) (w1.alloc (.cells #[.int .u8 ((c : Nat) : Int)] 5)) (n1.net.below (below_alloc _ _)) (by decide)
      rw [q] at this
      exact this
    clear h1 n1 NW
    go_wp2_with fail
    refine FA.out.mono ?_
    rintro e w2 ⟨rfl, S2, p2⟩
    have F2 : Hid (Below w.heap.size w w2) := ((N1.out.later (below_alloc _ _)).step p2).below
    clear FA p2 N1 cv
    go_wp2_with fail
    go_ret
    exact ⟨rfl, F2.out⟩
  · have e3 : decide ((49 : Int) ≤ ((c : Nat) : Int)) = false := decide_eq_false h49
    clear key h49
    go_enter Try.func3, Try.ntmps3
    go_wp2_with fail
    refine NW.out.mono ?_
    intro e w1 h1
    obtain ⟨R, S, rfl, n1⟩ := NO.new h1
    have N1 : Hid (NO w R S (fun _ => False) nt0 w1) := n1
    have cv := one_str hc w1
    have FA : Hid (Calls Try.prog 10 #[.pointer (some ⟨R, 0, none⟩), .string (strOf c)] (w1.alloc (.cells #[.int .u8 ((c : Nat) : Int)] 5)) fun e w' => e = .returned (.int .i64 160) ∧ ∃ S', NPost R S (fun _ => False) (w1.alloc (.cells #[.int .u8 ((c : Nat) : Int)] 5)) (fateT nt0 (strOf c)) S' (fun _ => False) w') := by
      have q := fateC_bad (strOf_bytes hc) HF.out
      have := fate_at R S (fun _ => False) nt0 (strOf c) (w1.alloc (.cells #[.int .u8 ((c : Nat) : Int)] 5)) (n1.net.below (below_alloc _ _)) (by decide)
      rw [q] at this
      exact this
    clear h1 n1 NW
    go_wp2_with fail
    refine FA.out.mono ?_
    rintro e w2 ⟨rfl, S2, p2⟩
    have F2 : Hid (Below w.heap.size w w2) := ((N1.out.later (below_alloc _ _)).step p2).below
    clear FA p2 N1 cv
    go_wp2_with fail
    go_ret
    exact ⟨rfl, F2.out⟩
theorem letters_any (c : Nat) (id : Int) (a : Option Addr) (n cp : Nat) (bs : List Nat) (w : World) (hc : c < 256) (hr : RdB w (.slice a n cp) bs) (hl : bs.length ≤ 140737488351232) :
    Calls Try.prog 3 #[.int .u8 ((c : Nat) : Int), .int .i64 id, .slice a n cp] w fun e w' => e = .returned (.bool true) ∧ Below w.heap.size w w' := by
  by_cases hF : isF c
  · rcases hF with rfl | rfl | ⟨h1, h2⟩
    · exact letters_x id a n cp bs w hr hl
    · exact letters_d id a n cp bs w hr hl
    · exact letters_n c (c - 48) (by omega) (by omega) (by omega) id a n cp bs w hr hl
  · exact letters_no c id a n cp w hc hF
end Go.Proofs.Ytblfolaakblcfaa
