/-
  Ours: DiskCountdown's walk.
-/
import Derived.Test.YtbghoogkmdnmpabDskWorks
import Derived.Test.YtbghoogkmdnmpabDskNear
namespace Go.Proofs.Ytbghoogkmdnmpab
open Go.RowKit

/-- A list of rows of bytes that came in. -/
def RdC (w : World) (v : Value) (cs : List (List Nat)) : Prop :=
  ∃ ao cap, v = .slice ao cs.length cap ∧ ∀ i, i < cs.length → ∃ g o a c, ao = some ⟨g, o, none⟩ ∧ g < w.heap.size ∧ w.cell? ⟨g, o + i, none⟩ = some (.slice a (cs.getD i []).length c) ∧ RdB w (.slice a (cs.getD i []).length c) (cs.getD i [])

/-- The disk ahead of the k-th Append: xs was appended by those that were taken. -/
def stt (af kp k : Nat) (xs : List Nat) : Dk := if k < af then ⟨xs, 0, [], 0, [((af : Int) - k, (kp : Int))], (k : Int), false⟩ else ⟨xs.take kp, min kp xs.length, [], 0, [], (af : Int), true⟩
theorem stt_up {af kp k : Nat} {xs : List Nat} (h : k < af) : stt af kp k xs = ⟨xs, 0, [], 0, [((af : Int) - k, (kp : Int))], (k : Int), false⟩ := if_pos h
theorem stt_dn {af kp k : Nat} {xs : List Nat} (h : ¬ k < af) : stt af kp k xs = ⟨xs.take kp, min kp xs.length, [], 0, [], (af : Int), true⟩ := if_neg h
theorem stt_wr (af kp k : Nat) (xs : List Nat) (h1 : af ≤ 1000) (h2 : k ≤ 1000) : 0 ≤ (stt af kp k xs).wr ∧ (stt af kp k xs).wr < 4611686018427387904 := by
  unfold stt
  split
  · show 0 ≤ (k : Int) ∧ (k : Int) < _; omega
  · show 0 ≤ (af : Int) ∧ (af : Int) < _; omega
theorem stt_full {af kp k : Nat} {xs ds : List Nat} (h : k < af) (hf : 16777216 < xs.length + ds.length) : ((stt af kp k xs).append 0 ds).2 = 52 := by
  rw [stt_up h]
  unfold Dk.append
  rw [if_neg (by simp [Dk.no]), if_pos (by simpa [Dk.fb] using hf)]
theorem stt_ok {af kp k : Nat} {xs ds : List Nat} (h : k + 1 < af) (hf : ¬ 16777216 < xs.length + ds.length) : (stt af kp k xs).append 0 ds = (stt af kp (k + 1) (xs ++ ds), 0) := by
  rw [stt_up (by omega), stt_up h]
  unfold Dk.append
  rw [if_neg (by simp [Dk.no]), if_neg (by simpa [Dk.fb] using hf)]
  rw [Dk.write_cons (c := ((af : Int) - k, (kp : Int))) (q := []) rfl, if_pos (by show 0 < (af : Int) - k - 1; omega)]
  simp only [Dk.put, Dk.fb, Dk.fd, Dk.tick, if_true, Prod.mk.injEq, Dk.mk.injEq, and_true, true_and]
  refine ⟨?_, ?_⟩
  · congr 1; congr 1; omega
  · omega
theorem stt_last {af kp k : Nat} {xs ds : List Nat} (h : k + 1 = af) (hf : ¬ 16777216 < xs.length + ds.length) : (stt af kp k xs).append 0 ds = (stt af kp (k + 1) (xs ++ ds), 51) := by
  rw [stt_up (by omega), stt_dn (by omega)]
  unfold Dk.append
  rw [if_neg (by simp [Dk.no]), if_neg (by simpa [Dk.fb] using hf)]
  rw [Dk.write_cons (c := ((af : Int) - k, (kp : Int))) (q := []) rfl, if_neg (by show ¬ 0 < (af : Int) - k - 1; omega)]
  simp only [Dk.put, Dk.fb, Dk.fd, Dk.tick, Dk.down, Dk.lose0, Dk.lose1, left, if_true, Prod.mk.injEq, Dk.mk.injEq, and_true, true_and, Int.toNat_natCast, Nat.zero_add, Nat.sub_zero, List.tail_cons, List.length_nil, Nat.min_zero, List.take_nil]
  refine ⟨(List.take_eq_take_min).symm, by omega⟩
theorem stt_past {af kp k : Nat} {xs ds : List Nat} (h : af ≤ k) : (stt af kp k xs).append 0 ds = (stt af kp (k + 1) xs, 51) := by
  rw [stt_dn (by omega), stt_dn (by omega)]
  unfold Dk.append
  rw [if_pos (by simp [Dk.no])]
  rfl

set_option maxRecDepth 20000 in
set_option maxHeartbeats 1000000 in
theorem count_out (af kp : Int) (a : Option Addr) (n c : Nat) (w : World) (h : af < 1 ∨ 1000 < af ∨ kp < 0 ∨ 1000 < kp ∨ 1000 < (n : Int)) : Calls Try.prog 3 #[.int .i64 af, .int .i64 kp, .slice a n c] w fun e w' => e = .returned (.bool true) ∧ Below w.heap.size w w' := by
  have WK : Hid (∀ w, Calls Try.prog 8 #[] w fun e w' => e = .returned (.bool true) ∧ Below w.heap.size w w') := fun w => works_at w
  have key : (decide (af < 1) = true) ∨ (decide (af < 1) = false ∧ decide (1000 < af) = true) ∨ (decide (af < 1) = false ∧ decide (1000 < af) = false ∧ decide (kp < 0) = true) ∨ (decide (af < 1) = false ∧ decide (1000 < af) = false ∧ decide (kp < 0) = false ∧ decide (1000 < kp) = true) ∨ (decide (af < 1) = false ∧ decide (1000 < af) = false ∧ decide (kp < 0) = false ∧ decide (1000 < kp) = false ∧ decide (1000 < (n : Int)) = true) := by
    simp only [decide_eq_true_eq, decide_eq_false_iff_not]; omega
  clear h
  rcases key with d1 | ⟨d1, d2⟩ | ⟨d1, d2, d3⟩ | ⟨d1, d2, d3, d4⟩ | ⟨d1, d2, d3, d4, d5⟩
  all_goals
    go_enter Try.func3, Try.ntmps3
    go_wp2_with fail
    refine (WK.out _).mono ?_
    rintro e w2 ⟨rfl, b2⟩
    go_wp2_with fail
    go_ret
    exact ⟨rfl, b2⟩

set_option maxRecDepth 20000 in
set_option maxHeartbeats 4000000 in
theorem count_in (af kp : Nat) (cs : List (List Nat)) (vc : Value) (w : World) (h1 : 1 ≤ af) (h2 : af ≤ 1000) (h3 : kp ≤ 1000) (h4 : cs.length ≤ 1000) (hl : ∀ c ∈ cs, c.length ≤ 1048576) (hc : RdC w vc cs) : Calls Try.prog 3 #[.int .i64 (af : Int), .int .i64 (kp : Int), vc] w fun e w' => e = .returned (.bool true) ∧ Below w.heap.size w w' := by
  obtain ⟨ao, cap, rfl, H⟩ := hc
  obtain ⟨N, hN⟩ : ∃ N, cs.length = N := ⟨_, rfl⟩
  rw [hN] at h4 H ⊢
  obtain ⟨i0, hi, hz0, hz1, hz2⟩ := info_parts infoB
  have HC : Hid (∀ i, i < N → ∃ g o a c, ao = some ⟨g, o, none⟩ ∧ (∀ w', Below w.heap.size w w' → w'.cell? ⟨g, o + i, none⟩ = some (.slice a (cs.getD i []).length c) ∧ RdB w' (.slice a (cs.getD i []).length c) (cs.getD i [])) ∧ (cs.getD i []).length ≤ 1048576) := fun i hi => by
    obtain ⟨g, o, a, c, e1, lt, e2, e3⟩ := H i hi
    refine ⟨g, o, a, c, e1, fun w' hb => ⟨(hb.cell (p := ⟨g, o + i, none⟩) lt).trans e2, Rd.later e3 hb⟩, ?_⟩
    rw [List.getD_eq_getElem?_getD, List.getElem?_eq_getElem (by omega)]
    exact hl _ (List.getElem_mem _)
  have NW : Hid (Calls Try.prog 9 #[] w (NewD w (Dk.load [] []))) := new_at w
  have AR : Hid (∀ R S w', DkIn w R S ⟨[], 0, [], 0, [], 0, false⟩ w' → Calls Try.prog 10 #[.pointer (some ⟨R, 0, none⟩), .int .i64 (af : Int), .int .i64 (kp : Int)] w' fun e w'' => e = .returned (.int .i64 0) ∧ DkPost R S w' (stt af kp 0 []) w'') := fun R S w' h => by
    have := arm_at R S _ w' af kp h.at_
    unfold Dk.arm at this
    rw [if_neg (by omega), if_neg (by simp)] at this
    rw [stt_up (by omega)]
    simpa using this
  have CP : Hid (∀ (bs : List Nat) v w', bs.length ≤ 1048576 → RdB w' v bs → Calls Try.prog 12 #[v] w' (NewB w' bs)) := fun bs v w' h1 h2 => lcopied_at bs v w' (by omega) h2
  have AP : Hid (∀ R S t w' (ds : List Nat) ad m cd, 0 ≤ t.wr ∧ t.wr < 4611686018427387904 → DkIn w R S t w' → RdB w' (.slice ad m cd) ds → ds.length ≤ 1048576 → (∀ g, (Value.slice ad m cd).ownBlock = some g → ¬ S g) → Calls Try.prog 11 #[.pointer (some ⟨R, 0, none⟩), .int .i64 0, .slice ad m cd] w' fun e w'' => e = .returned (.int .i64 (t.append 0 ds).2) ∧ ∃ S', DkIn w R S' (t.append 0 ds).1 w'' ∧ (∀ g, S' g → S g ∨ w'.heap.size ≤ g) ∧ Kp S w' w'') := fun R S t w' ds ad m cd hw h hd hl hap => by
    refine (append_at R S t w' 0 ds ad m cd hw h.at_ hd (by omega) (fun _ => hap)).mono ?_
    rintro e w'' ⟨rfl, p⟩
    exact ⟨rfl, h.post p⟩
  have DU : Hid (∀ R S t w', DkIn w R S t w' → Calls Try.prog 14 #[.pointer (some ⟨R, 0, none⟩), .int .i64 0] w' (NewE w' (t.durable 0))) := fun R S t w' h => durable_at R S t w' 0 h.at_
  have DN : Hid (∀ R S t w', DkIn w R S t w' → Calls Try.prog 15 #[.pointer (some ⟨R, 0, none⟩)] w' fun e w'' => e = .returned (.bool t.dn) ∧ w'' = w') := fun R S t w' h => down_at R S t w' h.at_
  have WS : Hid (∀ R S t w', DkIn w R S t w' → Calls Try.prog 16 #[.pointer (some ⟨R, 0, none⟩)] w' fun e w'' => e = .returned (.int .i64 t.wr) ∧ w'' = w') := fun R S t w' h => writes_at R S t w' h.at_
  have MO : Hid (∀ a b w', Calls Try.prog 13 #[.int .i64 a, .int .i64 b] w' fun e w'' => e = .returned (.int .i64 (min a b)) ∧ w'' = w') := fun a b w' => most_at a b w'
  have EQ : Hid (∀ (xs : List Nat) va vb w', xs.length ≤ 16777216 → RdB w' va xs → RdB w' vb xs → Calls Try.prog 17 #[va, vb] w' fun e w'' => e = .returned (.bool true) ∧ ∃ n, w'' = w'.drewN n) := fun xs va vb w' hl ha hb => by
    have := equal_at xs xs va vb w' (by omega) ha hb
    rw [decide_eq_true rfl] at this; exact this
  have d1 : decide ((af : Int) < 1) = false := decide_eq_false (by omega)
  have d2 : decide ((1000 : Int) < (af : Int)) = false := decide_eq_false (by omega)
  have d3 : decide ((kp : Int) < 0) = false := decide_eq_false (by omega)
  have d4 : decide ((1000 : Int) < (kp : Int)) = false := decide_eq_false (by omega)
  have d5 : decide ((1000 : Int) < (N : Int)) = false := decide_eq_false (by omega)
  clear H hl hN
  go_enter Try.func3, Try.ntmps3
  go_wp2_with fail
  refine NW.out.mono ?_
  rintro e w1 ⟨R, S1, rfl, e1, n1, b1⟩
  have I1 : DkIn w R S1 ⟨[], 0, [], 0, [], 0, false⟩ w1 := ⟨e1, n1, b1⟩
  clear e1 n1 b1 NW
  go_wp2_with fail
  refine (AR.out _ _ _ I1).mono ?_
  rintro e w2 ⟨rfl, p2⟩
  obtain ⟨S2, I2, _, _⟩ := I1.post p2
  clear I1 p2 AR
  go_wp2_with fail
  go_loopw [8, 9] (fun va vi wr => ∃ (k : Nat) (S : Nat → Prop) (a : Option Addr) (c : Nat) (xs : List Nat), vi = .int .i64 (k : Int) ∧ k ≤ N ∧ xs.length ≤ 16777216 ∧ va = .slice a xs.length c ∧ DkIn w R S (stt af kp k xs) wr ∧ RowB 5 w.heap.size wr va xs ∧ Hid (∀ g, va.ownBlock = some g → ¬ S g)) (fun _ vi _ => N - (intOf vi).toNat)
  case atStart => exact ⟨0, S2, none, 0, [], rfl, by omega, by simp, rfl, I2, RowV.nil _ _ _, fun g hg => by cases hg⟩
  case round =>
    clear I2
    obtain ⟨k, S, a, c, xs, rfl, hk, hxs, rfl, Ik, rk, ap⟩ := hrel
    by_cases hlt : (k : Int) < (N : Int)
    · obtain ⟨g, o, ca, cc, rfl, hcell, hlen⟩ := HC.out k (by omega)
      obtain ⟨c0, rd0⟩ := hcell wr Ik.bel
      have HCELL : Hid (∀ w', Below w.heap.size w w' → w'.cell? ⟨g, o + k, none⟩ = some (.slice ca (cs.getD k []).length cc) ∧ RdB w' (.slice ca (cs.getD k []).length cc) (cs.getD k [])) := hcell
      generalize cs.getD k [] = ds at *
      have CP1 := CP.out ds _ wr hlen rd0
      have CP1 : Hid (Calls _ _ _ _ _) := CP1
      clear rd0 hcell
      go_wp2_with fail
      refine CP1.out.mono ?_
      rintro e w3 ⟨v3, rfl, r3, b3⟩
      obtain ⟨a3, c3, e3, _⟩ := row_shape r3
      rw [List.length_map] at e3
      subst e3
      have I3 := Ik.below b3
      have rx3 := RowV.later rk b3
      have ap3 : ∀ g, (Value.slice a3 ds.length c3).ownBlock = some g → ¬ S g := fun g hg hs => by have := r3.block_ge hg; have := Ik.at_.size g hs; omega
      have AP1 : Hid (Calls _ _ _ _ _) := AP.out R S _ w3 ds a3 ds.length c3 (stt_wr af kp k xs h2 (by omega)) I3 r3.rd hlen ap3
      clear r3 b3 Ik rk CP1 ap3
      go_wp2_with fail
      refine AP1.out.mono ?_
      rintro e w4 ⟨rfl, S4, I4, s4, k4⟩
      have rx4 : RowB 5 w.heap.size w4 (.slice a xs.length c) xs := rx3.kp k4 ap.out
      have ap4 : Hid (∀ g, (Value.slice a xs.length c).ownBlock = some g → ¬ S4 g) := fun g hg hs => by
        rcases s4 g hs with h | h
        · exact ap.out g hg h
        · have := rx3.block_lt hg; omega
      obtain ⟨cell4, rd4⟩ := HCELL.out w4 I4.bel
      clear I3 rx3 ap s4 k4 AP1 HCELL c0
      by_cases hka : k < af
      · have dka : decide ((k : Int) < (af : Int)) = true := decide_eq_true (by omega)
        by_cases hf : 16777216 < xs.length + ds.length
        · rw [stt_full hka hf]
          have df : decide ((16777216 : Int) < (xs.length : Int) + (ds.length : Int)) = true := decide_eq_true (by omega)
          have FIN : Hid (Below w.heap.size w w4) := I4.bel
          clear I4 rx4 rd4
          go_wp2_with fail
          go_ret
          exact ⟨rfl, FIN.out⟩
        · have df : decide ((16777216 : Int) < (xs.length : Int) + (ds.length : Int)) = false := decide_eq_false (by omega)
          have l1 : (xs.map bv).length + (ds.map bv).length ≤ maxLen := by rw [List.length_map, List.length_map]; unfold maxLen; omega
          have l2 : ((xs.map bv).length + (ds.map bv).length) * 1 ≤ 140737488355328 := by rw [List.length_map, List.length_map]; omega
          have one := one_bv ds
          have sz4 := I4.bel.size
          by_cases hl : k + 1 < af
          · rw [stt_ok hl hf] at I4 ⊢
            have dka2 : decide ((k : Int) < (af : Int) - 1) = true := decide_eq_true (by omega)
            have dge : decide ((af : Int) - 1 ≤ (k : Int)) = false := decide_eq_false (by omega)
            have I4' : Hid (DkIn w R S4 (stt af kp (k + 1) (xs ++ ds)) w4) := I4
            have RX : Hid (RowB 5 w.heap.size w4 (.slice a xs.length c) xs) := rx4
            clear I4
            go_wp2_with (at_builtin; refine wpList_catN rfl (.tmp 69) (.tmp 73) 28 rfl 5 i0 (.int .u8 0) 1 underB hi hz0 hz1 hz2 rfl w.heap.size _ _ _ _ one rfl rx4 sz4 rfl rd4 l1 l2 ?_; intro v5 w5 r5 g5 n5)
            have r5' : RowB 5 w.heap.size w5 v5 (xs ++ ds) := by simpa [RowB] using r5
            have k5 := Kp.of_grown g5
            have I5 : DkIn w R S4 (stt af kp (k + 1) (xs ++ ds)) w5 := ⟨I4'.out.at_.kp k5 (fun g hg e => ap4.out g e hg), I4'.out.new, below_grown I4'.out.bel RX.out (Nat.le_refl _) sz4 g5⟩
            have ap5 : Hid (∀ g, v5.ownBlock = some g → ¬ S4 g) := fun g hg hs => by
              rcases n5 g hg with h | h
              · exact ap4.out g h hs
              · have := I4'.out.at_.size g hs; omega
            obtain ⟨a5, c5, e5, _⟩ := row_shape r5'
            rw [List.length_map] at e5
            subst e5
            go_roundw
            case rel => exact ⟨k + 1, S4, a5, c5, xs ++ ds, by go_num, by omega, by rw [List.length_append]; omega, rfl, I5, r5', ap5⟩
            case measure => simp [intOf]; omega
          · rw [stt_last (by omega) hf] at I4 ⊢
            have dka2 : decide ((k : Int) < (af : Int) - 1) = false := decide_eq_false (by omega)
            have dge : decide ((af : Int) - 1 ≤ (k : Int)) = true := decide_eq_true (by omega)
            have I4' : Hid (DkIn w R S4 (stt af kp (k + 1) (xs ++ ds)) w4) := I4
            have RX : Hid (RowB 5 w.heap.size w4 (.slice a xs.length c) xs) := rx4
            clear I4
            go_wp2_with (at_builtin; refine wpList_catN rfl (.tmp 69) (.tmp 73) 28 rfl 5 i0 (.int .u8 0) 1 underB hi hz0 hz1 hz2 rfl w.heap.size _ _ _ _ one rfl rx4 sz4 rfl rd4 l1 l2 ?_; intro v5 w5 r5 g5 n5)
            have r5' : RowB 5 w.heap.size w5 v5 (xs ++ ds) := by simpa [RowB] using r5
            have k5 := Kp.of_grown g5
            have I5 : DkIn w R S4 (stt af kp (k + 1) (xs ++ ds)) w5 := ⟨I4'.out.at_.kp k5 (fun g hg e => ap4.out g e hg), I4'.out.new, below_grown I4'.out.bel RX.out (Nat.le_refl _) sz4 g5⟩
            have ap5 : Hid (∀ g, v5.ownBlock = some g → ¬ S4 g) := fun g hg hs => by
              rcases n5 g hg with h | h
              · exact ap4.out g h hs
              · have := I4'.out.at_.size g hs; omega
            obtain ⟨a5, c5, e5, _⟩ := row_shape r5'
            rw [List.length_map] at e5
            subst e5
            go_roundw
            case rel => exact ⟨k + 1, S4, a5, c5, xs ++ ds, by go_num, by omega, by rw [List.length_append]; omega, rfl, I5, r5', ap5⟩
            case measure => simp [intOf]; omega
      · rw [stt_past (by omega)] at I4 ⊢
        have dka : decide ((k : Int) < (af : Int)) = false := decide_eq_false (by omega)
        have dl : decide ((k : Int) < (af : Int) - 1) = false := decide_eq_false (by omega)
        have dg : decide ((af : Int) - 1 ≤ (k : Int)) = true := decide_eq_true (by omega)
        clear rd4
        go_wp2_with fail
        go_roundw
        case rel => exact ⟨k + 1, S4, a, c, xs, by go_num, by omega, hxs, rfl, I4, rx4, ap4⟩
        case measure => simp [intOf]; omega
    · obtain rfl : k = N := by omega
      have DU1 : Hid (Calls _ _ _ _ _) := DU.out R S _ wr Ik
      have DN1 : Hid (∀ w', Below wr.heap.size wr w' → Calls Try.prog 15 #[.pointer (some ⟨R, 0, none⟩)] w' fun e w'' => e = .returned (.bool (stt af kp k xs).dn) ∧ w'' = w') := fun w' hb => DN.out R S _ w' (Ik.below hb)
      have WS1 : Hid (∀ w', Below wr.heap.size wr w' → Calls Try.prog 16 #[.pointer (some ⟨R, 0, none⟩)] w' fun e w'' => e = .returned (.int .i64 (stt af kp k xs).wr) ∧ w'' = w') := fun w' hb => WS.out R S _ w' (Ik.below hb)
      have MO1 := MO.out (af : Int) (k : Int)
      have BK := Ik.bel
      clear DU DN WS AP CP
      by_cases hka : k < af
      · rw [stt_up hka] at DU1 DN1 WS1
        rw [show Dk.durable ⟨xs, 0, [], 0, [((af : Int) - k, (kp : Int))], (k : Int), false⟩ 0 = ([], 0) from by simp [Dk.durable, Dk.fb, Dk.fd]] at DU1
        rw [show min (af : Int) (k : Int) = (k : Int) by omega] at MO1
        have MO1 : Hid (∀ w', Calls Try.prog 13 #[.int .i64 (af : Int), .int .i64 (k : Int)] w' fun e w'' => e = .returned (.int .i64 (k : Int)) ∧ w'' = w') := MO1
        have g1 : decide ((af : Int) ≤ (k : Int)) = false := decide_eq_false (by omega)
        have g2 : ((k : Int) != (k : Int)) = false := by simp
        have g3 : decide ((k : Int) < (af : Int)) = true := decide_eq_true (by omega)
        clear Ik rk
        go_wp2_with fail
        refine (MO1.out _).mono ?_
        rintro e w3 ⟨rfl, rfl⟩
        go_wp2_with fail
        refine DU1.out.mono ?_
        rintro e w4 ⟨a4, c4, rfl, r4, b4⟩
        rw [show ([] : List Nat).length = 0 from rfl]
        have B4 := below_trans BK b4
        clear r4
        go_wp2_with fail
        refine (DN1.out _ b4).mono ?_
        rintro e w5 ⟨rfl, rfl⟩
        go_wp2_with fail
        refine (WS1.out _ b4).mono ?_
        rintro e w5 ⟨rfl, rfl⟩
        go_wp2_with fail
        go_ret
        exact ⟨rfl, B4⟩
      · rw [stt_dn hka] at DU1 DN1 WS1
        rw [show Dk.durable ⟨xs.take kp, min kp xs.length, [], 0, [], (af : Int), true⟩ 0 = (xs.take kp, 0) from by simp [Dk.durable, Dk.fb, Dk.fd, List.take_take]] at DU1
        rw [show min (af : Int) (k : Int) = (af : Int) by omega] at MO1
        have MO1 : Hid (∀ w', Calls Try.prog 13 #[.int .i64 (af : Int), .int .i64 (k : Int)] w' fun e w'' => e = .returned (.int .i64 (af : Int)) ∧ w'' = w') := MO1
        obtain ⟨m, hm⟩ : ∃ m, min kp xs.length = m := ⟨_, rfl⟩
        have MO2 := MO.out (kp : Int) (xs.length : Int)
        rw [show min (kp : Int) (xs.length : Int) = (m : Int) by omega] at MO2
        have MO2 : Hid (∀ w', Calls Try.prog 13 #[.int .i64 (kp : Int), .int .i64 (xs.length : Int)] w' fun e w'' => e = .returned (.int .i64 (m : Int)) ∧ w'' = w') := MO2
        have g1 : decide ((af : Int) ≤ (k : Int)) = true := decide_eq_true (by omega)
        have g2 : ((af : Int) != (af : Int)) = false := by simp
        have g3 : decide ((k : Int) < (af : Int)) = false := decide_eq_false (by omega)
        have rd : RdB wr (.slice a m c) (xs.take kp) := by
          have := Rd.cut rk.rd (k := m) (by omega)
          rw [← List.map_take] at this
          have e : xs.take m = xs.take kp := by rw [← hm, Nat.min_comm kp, Nat.min_comm]; exact (List.take_eq_take_min ..).symm
          rw [e] at this; exact this
        have hmc : m ≤ c := by obtain ⟨_, _, e, h1, _⟩ := rk.rd.len; injection e with e1 e2 e3; rw [List.length_map] at h1; omega
        have hbl : (xs.take kp).length ≤ 16777216 := by rw [List.length_take]; omega
        clear Ik rk MO hm
        generalize xs.take kp = bt at *
        generalize xs.length = L at *
        go_wp2_with fail
        refine (MO1.out _).mono ?_
        rintro e w3 ⟨rfl, rfl⟩
        go_wp2_with fail
        refine DU1.out.mono ?_
        rintro e w4 ⟨a4, c4, rfl, r4, b4⟩
        have B4 := below_trans BK b4
        have rd4 := Rd.later rd b4
        have r4' := r4.rd
        clear r4 rd
        go_wp2_with fail
        refine (DN1.out _ b4).mono ?_
        rintro e w5 ⟨rfl, rfl⟩
        go_wp2_with fail
        refine (WS1.out _ b4).mono ?_
        rintro e w5 ⟨rfl, rfl⟩
        go_wp2_with fail
        refine (MO2.out _).mono ?_
        rintro e w5 ⟨rfl, rfl⟩
        go_wp2_with fail
        refine (EQ.out bt _ _ _ hbl r4' rd4).mono ?_
        rintro e w6 ⟨rfl, n6, rfl⟩
        go_wp2_with fail
        go_ret
        exact ⟨rfl, below_drewN B4 n6⟩

theorem count_any (af kp : Int) (cs : List (List Nat)) (a : Option Addr) (n c : Nat) (w : World) (hn : cs.length = n) (hl : ∀ c ∈ cs, c.length ≤ 1048576) (hc : RdC w (.slice a n c) cs) : Calls Try.prog 3 #[.int .i64 af, .int .i64 kp, .slice a n c] w fun e w' => e = .returned (.bool true) ∧ Below w.heap.size w w' := by
  by_cases h : af < 1 ∨ 1000 < af ∨ kp < 0 ∨ 1000 < kp ∨ 1000 < (n : Int)
  · exact count_out af kp a n c w h
  · obtain ⟨A, rfl⟩ : ∃ A : Nat, af = (A : Int) := ⟨af.toNat, by omega⟩
    obtain ⟨K, rfl⟩ : ∃ K : Nat, kp = (K : Int) := ⟨kp.toNat, by omega⟩
    exact count_in A K cs _ w (by omega) (by omega) (by omega) (by omega) hl hc
end Go.Proofs.Ytbghoogkmdnmpab
