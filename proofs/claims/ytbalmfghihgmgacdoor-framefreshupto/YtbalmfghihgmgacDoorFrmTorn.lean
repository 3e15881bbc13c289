/-
  Ours: the walk of FrameTorn.
-/
import Derived.Test.YtbalmfghihgmgacDoorFrmJoin
namespace Go.Proofs.YtbalmfghihgmgacDoor
open Go.RowKit

theorem aheadN_eq : ∀ (cs : List (List Nat)) (C n : Nat), n ≤ cs.length → CrcM.sizeL (cs.take n) ≤ C → (n = cs.length ∨ C < CrcM.sizeL (cs.take (n + 1))) → CrcM.aheadN cs C = n
  | [], C, n, h1, _, _ => by simp at h1; subst h1; rfl
  | p :: cs, C, 0, _, _, h3 => by
    rcases h3 with h | h
    · simp at h
    · rw [List.take_succ_cons, List.take_zero, CrcM.sizeL_cons, CrcM.sizeL_nil] at h
      unfold CrcM.aheadN
      rw [if_neg (by omega)]
  | p :: cs, C, n + 1, h1, h2, h3 => by
    rw [List.take_succ_cons, CrcM.sizeL_cons] at h2
    unfold CrcM.aheadN
    rw [if_pos (by omega), aheadN_eq cs (C - (p.length + 8)) n (by simpa using h1) (by omega) ?_]
    rcases h3 with h | h
    · left; simpa using h
    · right
      rw [List.take_succ_cons, CrcM.sizeL_cons] at h
      omega
theorem aheadN_le : ∀ (cs : List (List Nat)) (C : Nat), CrcM.aheadN cs C ≤ cs.length
  | [], C => by unfold CrcM.aheadN; simp
  | p :: cs, C => by
    unfold CrcM.aheadN
    have := aheadN_le cs (C - (p.length + 8))
    split
    · rw [List.length_cons]; omega
    · omega
theorem join_lt {cs : List (List Nat)} (h : ∀ c ∈ cs, ∀ b ∈ c, b < 256) : ∀ b ∈ CrcM.join cs, b < 256 := by
  intro b hb
  unfold CrcM.join at hb
  obtain ⟨c, hc, hb'⟩ := List.mem_flatMap.1 hb
  exact CrcM.enc_lt (h c hc) b hb'

set_option maxRecDepth 100000 in
set_option maxHeartbeats 2000000 in
theorem torn_core (cs : List (List Nat)) (cut : Int) (C : Nat) (b1 b2 : Bool) (v : Value) (w : World) (hs : Sml cs) (h : RdR w v cs) (hT : TabS w) (hz : CrcM.sizeL cs ≤ 6000000) (hC : C ≤ CrcM.sizeL cs)
    (d1 : decide (cut < 0) = b1) (d2 : decide (((CrcM.sizeL cs : Nat) : Int) < cut) = b2) (hcut : (b1 = true ∧ C = CrcM.sizeL cs) ∨ (b1 = false ∧ b2 = true ∧ C = CrcM.sizeL cs) ∨ (b1 = false ∧ b2 = false ∧ cut = (C : Int))) :
    Calls Tryd.prog 5 #[v, .int .i64 cut] w fun e w' => e = .returned (.bool true) ∧ Below w.heap.size w w' := by
  obtain ⟨ao, cap, rfl, hcap⟩ := h.len
  have hlen : ∀ p ∈ cs, p.length ≤ 4194304 := fun p hp => by have := hs.len p hp; omega
  have HJL : (CrcM.join cs).length = CrcM.sizeL cs := by unfold CrcM.sizeL; rfl
  have TORN := CrcM.scan_torn cs hlen C (by omega)
  have FIT : Hid (Calls Tryd.prog 17 #[.slice ao cs.length cap] w fun e w' => e = .returned (.bool true) ∧ w' = w) := (fits_at cs _ w hs h).mono fun e w' ⟨h1, h2⟩ => ⟨by rw [h1, decide_eq_true hz], h2⟩
  have TWN : Hid (Calls Tryd.prog 19 #[.slice ao cs.length cap] w fun e w' => ∃ a c, e = .returned (.slice a cs.length c) ∧ RowsV w.heap.size w' (.slice a cs.length c) cs ∧ Below w.heap.size w w') := twin_at cs _ w hs h
  have JN : Hid (∀ w' v, Below w.heap.size w w' → RdR w' v cs → Calls Tryd.prog 18 #[v] w' (NewT w' (CrcM.join cs))) := fun w' v hb hr => join_at cs v w' hs (by omega) hr (hT.below hb)
  have SZ : Hid (∀ w', Below w.heap.size w w' → Calls Tryd.prog 20 #[.slice ao cs.length cap] w' fun e w'' => e = .returned (.int .i64 ((CrcM.sizeL cs : Nat) : Int)) ∧ w'' = w') := fun w' hb => size_at cs _ w' hs (h.later hb)
  have SCN : Hid (∀ w' v, Below w.heap.size w w' → RdB w' v ((CrcM.join cs).take C) → Calls Tryd.prog 12 #[v] w' (ScanIs ((CrcM.join cs).take C) w')) := fun w' v hb hr => scan_at _ v w' (fun b hb' => join_lt hs.byt b (List.mem_of_mem_take hb')) (by rw [List.length_take]; omega) hr (hT.below hb)
  unfold ScanIs at SCN
  rw [TORN] at SCN
  simp only at SCN
  have hNL := aheadN_le cs C
  rw [show (cs.take (CrcM.aheadN cs C)).length = CrcM.aheadN cs C by rw [List.length_take]; omega] at SCN
  have HNA : Hid (∀ n, CrcM.aheadN cs C = n → CrcM.aheadN cs C = n) := fun n h => h
  generalize hT0 : (if CrcM.sizeL (cs.take (CrcM.aheadN cs C)) = C then 0 else 1) = T0 at *
  generalize hS0 : CrcM.sizeL (cs.take (CrcM.aheadN cs C)) = S0 at *
  have HT0 : Hid ((if S0 = C then 0 else 1) = T0) := hT0
  have HS0 : Hid (CrcM.sizeL (cs.take (CrcM.aheadN cs C)) = S0) := hS0
  clear hT0 hS0 HNA
  have HH : Hid (∀ i w', i < cs.length → Below w.heap.size w w' → ∃ g o a' c', ao = some ⟨g, o, none⟩ ∧ w'.cell? ⟨g, o + i, none⟩ = some (.slice a' (cs.getD i []).length c')) := fun i w' hi hb => by
    obtain ⟨g, o, a', c', h1, h2, _⟩ := (h.later hb).at.2.2 i hi
    exact ⟨g, o, a', c', h1, h2⟩
  have HN : Hid (∀ i, i < cs.length → CrcM.sizeL (cs.take (i + 1)) = CrcM.sizeL (cs.take i) + (cs.getD i []).length + 8) := fun i hi => by rw [take_next cs i hi, sizeL_snoc]
  have HB : Hid (∀ i, CrcM.sizeL (cs.take i) ≤ 6000000) := fun i => by have := sizeL_take_le cs i; omega
  have HD : Hid (∀ i, (cs.getD i []).length ≤ 1048576) := hs.lenD
  have Z0 : Hid (CrcM.sizeL (cs.take 0) = 0) := by show _ = _; rw [List.take_zero]; exact CrcM.sizeL_nil
  have AH : Hid (∀ n, n ≤ cs.length → CrcM.sizeL (cs.take n) ≤ C → (n = cs.length ∨ C < CrcM.sizeL (cs.take (n + 1))) → CrcM.aheadN cs C = n) := aheadN_eq cs C
  have RDX : Hid (∀ w', Below w.heap.size w w' → RdR w' (.slice ao cs.length cap) cs) := fun w' hb => h.later hb
  have ALK : Hid (∀ n w' va vb, n ≤ cs.length → RdR w' va (cs.take n) → RdR w' vb (cs.take n) → Calls Tryd.prog 14 #[va, vb] w' fun e w'' => e = .returned (.bool true) ∧ ∃ q, w'' = w'.drewN q) := fun n w' va vb hn h1 h2 => alike_at _ va vb w' (by rw [List.length_take]; have := hs.cnt; omega) (fun x hx => by have := hs.len x (List.mem_of_mem_take hx); omega) h1 h2
  generalize hNA : CrcM.aheadN cs C = NA at *
  clear hNA
  have hc := hs.cnt
  have HJL' : Hid ((CrcM.join cs).length = CrcM.sizeL cs) := HJL
  generalize CrcM.join cs = F at *
  generalize CrcM.sizeL cs = SL at *
  obtain ⟨L, hL⟩ : ∃ L, cs.length = L := ⟨_, rfl⟩
  rw [hL] at FIT TWN SZ HH HN AH hc hcap RDX ALK ⊢
  have HL : Hid (cs.length = L) := hL
  clear h hs hT TORN hL hlen HJL
  have n1 : ((SL : Int) != (SL : Int)) = false := by simp
  have n9 : ¬ (SL : Int) < 0 := by omega
  rcases hcut with ⟨rfl, rfl⟩ | ⟨rfl, rfl, rfl⟩ | ⟨rfl, rfl, rfl⟩
  · go_enter Tryd.func5, Tryd.ntmps5
    go_wp2_with fail
    refine FIT.out.mono ?_
    rintro e w0 ⟨rfl, rfl⟩
    go_wp2_with fail
    refine TWN.out.mono ?_
    rintro e w1 ⟨a1, c1, rfl, r1, b1⟩
    have R1 : Hid (RdR w1 (.slice a1 L c1) cs) := r1.rd
    have B1 : Hid (Below w0.heap.size w0 w1) := b1
    clear r1 b1 TWN FIT
    go_wp2_with fail
    refine (JN.out _ _ B1.out R1.out).mono ?_
    rintro e w2 ⟨a2, c2, rfl, r2, b2⟩
    have B2 : Hid (Below w0.heap.size w0 w2) := below_trans B1.out b2
    have R2 : Hid (RdB w2 (.slice a2 F.length c2) F) := RowV.rd r2
    obtain ⟨_, _, e2, hcc, _⟩ := R2.out.len
    injection e2 with e21 e22 e23
    subst e21 e23
    rw [List.length_map, HJL'.out] at hcc
    rw [HJL'.out] at R2 ⊢
    clear r2 b2 B1 R1 JN e22
    go_wp2_with fail
    refine (SZ.out _ B2.out).mono ?_
    rintro e w3 ⟨rfl, rfl⟩
    have R3 : Hid (RdB w3 (.slice a2 C c2) (F.take C)) := by
      have := Rd.cut (k := C) R2.out (by omega)
      rw [← List.map_take] at this; exact this
    go_wp2_with fail
    refine (SCN.out _ _ B2.out R3.out).mono ?_
    rintro e w4 ⟨a4, c4, rfl, r4, b4⟩
    have B4 : Hid (Below w0.heap.size w0 w4) := below_trans B2.out b4
    have R4 : Hid (RdR w4 (.slice a4 NA c4) (cs.take NA)) := r4.rd
    clear r4 b4 B2 R2 R3 SCN SZ
    go_wp2_with fail
    go_loopw [10, 11] (fun vw vn wr => ∃ (n : Nat), wr = w4 ∧ vn = .int .i64 (n : Int) ∧ n ≤ L ∧ vw = .int .i64 ((CrcM.sizeL (cs.take n) : Nat) : Int) ∧ CrcM.sizeL (cs.take n) ≤ C) (fun _ vn _ => L - (intOf vn).toNat)
    case atStart => exact ⟨0, rfl, rfl, by omega, by rw [Z0.out]; rfl, by rw [Z0.out]; omega⟩
    case round =>
      obtain ⟨n, rfl, rfl, hn, rfl, hle⟩ := hrel
      have hb := HB.out n
      by_cases hlt : n < L
      · have dl : decide ((n : Int) < (L : Int)) = true := decide_eq_true (by omega)
        obtain ⟨g, o, a5, c5, hao, k5⟩ := HH.out n wr (by omega) B4.out
        have hx := HD.out n
        have HN' : Hid (CrcM.sizeL (cs.take (n + 1)) = CrcM.sizeL (cs.take n) + (cs.getD n []).length + 8) := HN.out n hlt
        by_cases hgo : CrcM.sizeL (cs.take n) + (cs.getD n []).length + 8 ≤ C
        · have dg : decide (((CrcM.sizeL (cs.take n) : Nat) : Int) + (((cs.getD n []).length : Nat) : Int) + 8 ≤ (C : Int)) = true := decide_eq_true (by omega)
          generalize CrcM.sizeL (cs.take n) = S at *
          generalize (cs.getD n []).length = X at *
          subst hao
          go_wp2_with fail
          go_roundw
          case rel => exact ⟨n + 1, by trivial, by go_num, by omega, by rw [HN'.out]; go_num, by rw [HN'.out]; omega⟩
          case measure => simp [intOf]; omega
        · have dg : decide (((CrcM.sizeL (cs.take n) : Nat) : Int) + (((cs.getD n []).length : Nat) : Int) + 8 ≤ (C : Int)) = false := decide_eq_false (by omega)
          obtain rfl : n = NA := (AH.out n hn hle (.inr (by rw [HN'.out]; omega))).symm
          have RX := RdR.cut (k := n) (RDX.out wr B4.out) hn
          have ES := HS0.out
          have AL : Hid (Calls Tryd.prog 14 #[.slice a4 n c4, .slice ao n cap] wr fun e w'' => e = .returned (.bool true) ∧ ∃ q, w'' = wr.drewN q) := ALK.out n wr _ _ hn R4.out RX
          clear RX AH ALK RDX R4
          generalize CrcM.sizeL (cs.take n) = S at *
          generalize (cs.getD n []).length = X at *
          subst hao
          subst ES
          have n5 : ((S : Int) != (S : Int)) = false := by simp
          by_cases heq : S = C
          · have e7 : ((S : Int) == (C : Int)) = true := beq_iff_eq.2 (by omega)
            obtain rfl : T0 = 0 := by rw [← HT0.out, if_pos heq]
            have e8 : (((0 : Nat) : Int) == 0) = true := rfl
            clear heq
            go_wp2_with fail
            refine AL.out.mono ?_
            rintro e w6 ⟨rfl, q, rfl⟩
            go_wp2_with fail
            go_ret
            exact ⟨rfl, below_drewN B4.out q⟩
          · have e7 : ((S : Int) == (C : Int)) = false := beq_eq_false_iff_ne.2 (by omega)
            obtain rfl : T0 = 1 := by rw [← HT0.out, if_neg heq]
            have e8 : (((1 : Nat) : Int) == 1) = true := rfl
            go_wp2_with fail
            refine AL.out.mono ?_
            rintro e w6 ⟨rfl, q, rfl⟩
            go_wp2_with fail
            go_ret
            exact ⟨rfl, below_drewN B4.out q⟩
      · obtain rfl : n = L := by omega
        have dl : decide ((n : Int) < (n : Int)) = false := decide_eq_false (by omega)
        obtain rfl : n = NA := (AH.out n hn hle (.inl rfl)).symm
        have RX := RdR.cut (k := n) (RDX.out wr B4.out) hn
        have ES := HS0.out
        have AL : Hid (Calls Tryd.prog 14 #[.slice a4 n c4, .slice ao n cap] wr fun e w'' => e = .returned (.bool true) ∧ ∃ q, w'' = wr.drewN q) := ALK.out n wr _ _ hn R4.out RX
        clear RX AH ALK RDX R4
        generalize CrcM.sizeL (cs.take n) = S at *
        subst ES
        have n5 : ((S : Int) != (S : Int)) = false := by simp
        by_cases heq : S = C
        · have e7 : ((S : Int) == (C : Int)) = true := beq_iff_eq.2 (by omega)
          obtain rfl : T0 = 0 := by rw [← HT0.out, if_pos heq]
          have e8 : (((0 : Nat) : Int) == 0) = true := rfl
          clear heq
          go_wp2_with fail
          refine AL.out.mono ?_
          rintro e w6 ⟨rfl, q, rfl⟩
          go_wp2_with fail
          go_ret
          exact ⟨rfl, below_drewN B4.out q⟩
        · have e7 : ((S : Int) == (C : Int)) = false := beq_eq_false_iff_ne.2 (by omega)
          obtain rfl : T0 = 1 := by rw [← HT0.out, if_neg heq]
          have e8 : (((1 : Nat) : Int) == 1) = true := rfl
          go_wp2_with fail
          refine AL.out.mono ?_
          rintro e w6 ⟨rfl, q, rfl⟩
          go_wp2_with fail
          go_ret
          exact ⟨rfl, below_drewN B4.out q⟩
  · go_enter Tryd.func5, Tryd.ntmps5
    go_wp2_with fail
    refine FIT.out.mono ?_
    rintro e w0 ⟨rfl, rfl⟩
    go_wp2_with fail
    refine TWN.out.mono ?_
    rintro e w1 ⟨a1, c1, rfl, r1, b1⟩
    have R1 : Hid (RdR w1 (.slice a1 L c1) cs) := r1.rd
    have B1 : Hid (Below w0.heap.size w0 w1) := b1
    clear r1 b1 TWN FIT
    go_wp2_with fail
    refine (JN.out _ _ B1.out R1.out).mono ?_
    rintro e w2 ⟨a2, c2, rfl, r2, b2⟩
    have B2 : Hid (Below w0.heap.size w0 w2) := below_trans B1.out b2
    have R2 : Hid (RdB w2 (.slice a2 F.length c2) F) := RowV.rd r2
    obtain ⟨_, _, e2, hcc, _⟩ := R2.out.len
    injection e2 with e21 e22 e23
    subst e21 e23
    rw [List.length_map, HJL'.out] at hcc
    rw [HJL'.out] at R2 ⊢
    clear r2 b2 B1 R1 JN e22
    go_wp2_with fail
    refine (SZ.out _ B2.out).mono ?_
    rintro e w3 ⟨rfl, rfl⟩
    have R3 : Hid (RdB w3 (.slice a2 C c2) (F.take C)) := by
      have := Rd.cut (k := C) R2.out (by omega)
      rw [← List.map_take] at this; exact this
    go_wp2_with fail
    refine (SCN.out _ _ B2.out R3.out).mono ?_
    rintro e w4 ⟨a4, c4, rfl, r4, b4⟩
    have B4 : Hid (Below w0.heap.size w0 w4) := below_trans B2.out b4
    have R4 : Hid (RdR w4 (.slice a4 NA c4) (cs.take NA)) := r4.rd
    clear r4 b4 B2 R2 R3 SCN SZ
    go_wp2_with fail
    go_loopw [10, 11] (fun vw vn wr => ∃ (n : Nat), wr = w4 ∧ vn = .int .i64 (n : Int) ∧ n ≤ L ∧ vw = .int .i64 ((CrcM.sizeL (cs.take n) : Nat) : Int) ∧ CrcM.sizeL (cs.take n) ≤ C) (fun _ vn _ => L - (intOf vn).toNat)
    case atStart => exact ⟨0, rfl, rfl, by omega, by rw [Z0.out]; rfl, by rw [Z0.out]; omega⟩
    case round =>
      obtain ⟨n, rfl, rfl, hn, rfl, hle⟩ := hrel
      have hb := HB.out n
      by_cases hlt : n < L
      · have dl : decide ((n : Int) < (L : Int)) = true := decide_eq_true (by omega)
        obtain ⟨g, o, a5, c5, hao, k5⟩ := HH.out n wr (by omega) B4.out
        have hx := HD.out n
        have HN' : Hid (CrcM.sizeL (cs.take (n + 1)) = CrcM.sizeL (cs.take n) + (cs.getD n []).length + 8) := HN.out n hlt
        by_cases hgo : CrcM.sizeL (cs.take n) + (cs.getD n []).length + 8 ≤ C
        · have dg : decide (((CrcM.sizeL (cs.take n) : Nat) : Int) + (((cs.getD n []).length : Nat) : Int) + 8 ≤ (C : Int)) = true := decide_eq_true (by omega)
          generalize CrcM.sizeL (cs.take n) = S at *
          generalize (cs.getD n []).length = X at *
          subst hao
          go_wp2_with fail
          go_roundw
          case rel => exact ⟨n + 1, by trivial, by go_num, by omega, by rw [HN'.out]; go_num, by rw [HN'.out]; omega⟩
          case measure => simp [intOf]; omega
        · have dg : decide (((CrcM.sizeL (cs.take n) : Nat) : Int) + (((cs.getD n []).length : Nat) : Int) + 8 ≤ (C : Int)) = false := decide_eq_false (by omega)
          obtain rfl : n = NA := (AH.out n hn hle (.inr (by rw [HN'.out]; omega))).symm
          have RX := RdR.cut (k := n) (RDX.out wr B4.out) hn
          have ES := HS0.out
          have AL : Hid (Calls Tryd.prog 14 #[.slice a4 n c4, .slice ao n cap] wr fun e w'' => e = .returned (.bool true) ∧ ∃ q, w'' = wr.drewN q) := ALK.out n wr _ _ hn R4.out RX
          clear RX AH ALK RDX R4
          generalize CrcM.sizeL (cs.take n) = S at *
          generalize (cs.getD n []).length = X at *
          subst hao
          subst ES
          have n5 : ((S : Int) != (S : Int)) = false := by simp
          by_cases heq : S = C
          · have e7 : ((S : Int) == (C : Int)) = true := beq_iff_eq.2 (by omega)
            obtain rfl : T0 = 0 := by rw [← HT0.out, if_pos heq]
            have e8 : (((0 : Nat) : Int) == 0) = true := rfl
            clear heq
            go_wp2_with fail
            refine AL.out.mono ?_
            rintro e w6 ⟨rfl, q, rfl⟩
            go_wp2_with fail
            go_ret
            exact ⟨rfl, below_drewN B4.out q⟩
          · have e7 : ((S : Int) == (C : Int)) = false := beq_eq_false_iff_ne.2 (by omega)
            obtain rfl : T0 = 1 := by rw [← HT0.out, if_neg heq]
            have e8 : (((1 : Nat) : Int) == 1) = true := rfl
            go_wp2_with fail
            refine AL.out.mono ?_
            rintro e w6 ⟨rfl, q, rfl⟩
            go_wp2_with fail
            go_ret
            exact ⟨rfl, below_drewN B4.out q⟩
      · obtain rfl : n = L := by omega
        have dl : decide ((n : Int) < (n : Int)) = false := decide_eq_false (by omega)
        obtain rfl : n = NA := (AH.out n hn hle (.inl rfl)).symm
        have RX := RdR.cut (k := n) (RDX.out wr B4.out) hn
        have ES := HS0.out
        have AL : Hid (Calls Tryd.prog 14 #[.slice a4 n c4, .slice ao n cap] wr fun e w'' => e = .returned (.bool true) ∧ ∃ q, w'' = wr.drewN q) := ALK.out n wr _ _ hn R4.out RX
        clear RX AH ALK RDX R4
        generalize CrcM.sizeL (cs.take n) = S at *
        subst ES
        have n5 : ((S : Int) != (S : Int)) = false := by simp
        by_cases heq : S = C
        · have e7 : ((S : Int) == (C : Int)) = true := beq_iff_eq.2 (by omega)
          obtain rfl : T0 = 0 := by rw [← HT0.out, if_pos heq]
          have e8 : (((0 : Nat) : Int) == 0) = true := rfl
          clear heq
          go_wp2_with fail
          refine AL.out.mono ?_
          rintro e w6 ⟨rfl, q, rfl⟩
          go_wp2_with fail
          go_ret
          exact ⟨rfl, below_drewN B4.out q⟩
        · have e7 : ((S : Int) == (C : Int)) = false := beq_eq_false_iff_ne.2 (by omega)
          obtain rfl : T0 = 1 := by rw [← HT0.out, if_neg heq]
          have e8 : (((1 : Nat) : Int) == 1) = true := rfl
          go_wp2_with fail
          refine AL.out.mono ?_
          rintro e w6 ⟨rfl, q, rfl⟩
          go_wp2_with fail
          go_ret
          exact ⟨rfl, below_drewN B4.out q⟩
  · go_enter Tryd.func5, Tryd.ntmps5
    go_wp2_with fail
    refine FIT.out.mono ?_
    rintro e w0 ⟨rfl, rfl⟩
    go_wp2_with fail
    refine TWN.out.mono ?_
    rintro e w1 ⟨a1, c1, rfl, r1, b1⟩
    have R1 : Hid (RdR w1 (.slice a1 L c1) cs) := r1.rd
    have B1 : Hid (Below w0.heap.size w0 w1) := b1
    clear r1 b1 TWN FIT
    go_wp2_with fail
    refine (JN.out _ _ B1.out R1.out).mono ?_
    rintro e w2 ⟨a2, c2, rfl, r2, b2⟩
    have B2 : Hid (Below w0.heap.size w0 w2) := below_trans B1.out b2
    have R2 : Hid (RdB w2 (.slice a2 F.length c2) F) := RowV.rd r2
    obtain ⟨_, _, e2, hcc, _⟩ := R2.out.len
    injection e2 with e21 e22 e23
    subst e21 e23
    rw [List.length_map, HJL'.out] at hcc
    rw [HJL'.out] at R2 ⊢
    clear r2 b2 B1 R1 JN e22
    go_wp2_with fail
    refine (SZ.out _ B2.out).mono ?_
    rintro e w3 ⟨rfl, rfl⟩
    have R3 : Hid (RdB w3 (.slice a2 C c2) (F.take C)) := by
      have := Rd.cut (k := C) R2.out (by omega)
      rw [← List.map_take] at this; exact this
    go_wp2_with fail
    refine (SCN.out _ _ B2.out R3.out).mono ?_
    rintro e w4 ⟨a4, c4, rfl, r4, b4⟩
    have B4 : Hid (Below w0.heap.size w0 w4) := below_trans B2.out b4
    have R4 : Hid (RdR w4 (.slice a4 NA c4) (cs.take NA)) := r4.rd
    clear r4 b4 B2 R2 R3 SCN SZ
    go_wp2_with fail
    go_loopw [10, 11] (fun vw vn wr => ∃ (n : Nat), wr = w4 ∧ vn = .int .i64 (n : Int) ∧ n ≤ L ∧ vw = .int .i64 ((CrcM.sizeL (cs.take n) : Nat) : Int) ∧ CrcM.sizeL (cs.take n) ≤ C) (fun _ vn _ => L - (intOf vn).toNat)
    case atStart => exact ⟨0, rfl, rfl, by omega, by rw [Z0.out]; rfl, by rw [Z0.out]; omega⟩
    case round =>
      obtain ⟨n, rfl, rfl, hn, rfl, hle⟩ := hrel
      have hb := HB.out n
      by_cases hlt : n < L
      · have dl : decide ((n : Int) < (L : Int)) = true := decide_eq_true (by omega)
        obtain ⟨g, o, a5, c5, hao, k5⟩ := HH.out n wr (by omega) B4.out
        have hx := HD.out n
        have HN' : Hid (CrcM.sizeL (cs.take (n + 1)) = CrcM.sizeL (cs.take n) + (cs.getD n []).length + 8) := HN.out n hlt
        by_cases hgo : CrcM.sizeL (cs.take n) + (cs.getD n []).length + 8 ≤ C
        · have dg : decide (((CrcM.sizeL (cs.take n) : Nat) : Int) + (((cs.getD n []).length : Nat) : Int) + 8 ≤ (C : Int)) = true := decide_eq_true (by omega)
          generalize CrcM.sizeL (cs.take n) = S at *
          generalize (cs.getD n []).length = X at *
          subst hao
          go_wp2_with fail
          go_roundw
          case rel => exact ⟨n + 1, by trivial, by go_num, by omega, by rw [HN'.out]; go_num, by rw [HN'.out]; omega⟩
          case measure => simp [intOf]; omega
        · have dg : decide (((CrcM.sizeL (cs.take n) : Nat) : Int) + (((cs.getD n []).length : Nat) : Int) + 8 ≤ (C : Int)) = false := decide_eq_false (by omega)
          obtain rfl : n = NA := (AH.out n hn hle (.inr (by rw [HN'.out]; omega))).symm
          have RX := RdR.cut (k := n) (RDX.out wr B4.out) hn
          have ES := HS0.out
          have AL : Hid (Calls Tryd.prog 14 #[.slice a4 n c4, .slice ao n cap] wr fun e w'' => e = .returned (.bool true) ∧ ∃ q, w'' = wr.drewN q) := ALK.out n wr _ _ hn R4.out RX
          clear RX AH ALK RDX R4
          generalize CrcM.sizeL (cs.take n) = S at *
          generalize (cs.getD n []).length = X at *
          subst hao
          subst ES
          have n5 : ((S : Int) != (S : Int)) = false := by simp
          by_cases heq : S = C
          · have e7 : ((S : Int) == (C : Int)) = true := beq_iff_eq.2 (by omega)
            obtain rfl : T0 = 0 := by rw [← HT0.out, if_pos heq]
            have e8 : (((0 : Nat) : Int) == 0) = true := rfl
            clear heq
            go_wp2_with fail
            refine AL.out.mono ?_
            rintro e w6 ⟨rfl, q, rfl⟩
            go_wp2_with fail
            go_ret
            exact ⟨rfl, below_drewN B4.out q⟩
          · have e7 : ((S : Int) == (C : Int)) = false := beq_eq_false_iff_ne.2 (by omega)
            obtain rfl : T0 = 1 := by rw [← HT0.out, if_neg heq]
            have e8 : (((1 : Nat) : Int) == 1) = true := rfl
            go_wp2_with fail
            refine AL.out.mono ?_
            rintro e w6 ⟨rfl, q, rfl⟩
            go_wp2_with fail
            go_ret
            exact ⟨rfl, below_drewN B4.out q⟩
      · obtain rfl : n = L := by omega
        have dl : decide ((n : Int) < (n : Int)) = false := decide_eq_false (by omega)
        obtain rfl : n = NA := (AH.out n hn hle (.inl rfl)).symm
        have RX := RdR.cut (k := n) (RDX.out wr B4.out) hn
        have ES := HS0.out
        have AL : Hid (Calls Tryd.prog 14 #[.slice a4 n c4, .slice ao n cap] wr fun e w'' => e = .returned (.bool true) ∧ ∃ q, w'' = wr.drewN q) := ALK.out n wr _ _ hn R4.out RX
        clear RX AH ALK RDX R4
        generalize CrcM.sizeL (cs.take n) = S at *
        subst ES
        have n5 : ((S : Int) != (S : Int)) = false := by simp
        by_cases heq : S = C
        · have e7 : ((S : Int) == (C : Int)) = true := beq_iff_eq.2 (by omega)
          obtain rfl : T0 = 0 := by rw [← HT0.out, if_pos heq]
          have e8 : (((0 : Nat) : Int) == 0) = true := rfl
          clear heq
          go_wp2_with fail
          refine AL.out.mono ?_
          rintro e w6 ⟨rfl, q, rfl⟩
          go_wp2_with fail
          go_ret
          exact ⟨rfl, below_drewN B4.out q⟩
        · have e7 : ((S : Int) == (C : Int)) = false := beq_eq_false_iff_ne.2 (by omega)
          obtain rfl : T0 = 1 := by rw [← HT0.out, if_neg heq]
          have e8 : (((1 : Nat) : Int) == 1) = true := rfl
          go_wp2_with fail
          refine AL.out.mono ?_
          rintro e w6 ⟨rfl, q, rfl⟩
          go_wp2_with fail
          go_ret
          exact ⟨rfl, below_drewN B4.out q⟩

set_option maxHeartbeats 1000000 in
theorem torn_any (cs : List (List Nat)) (cut : Int) (v : Value) (w : World) (hs : Sml cs) (h : RdR w v cs) (hT : TabS w) :
    Calls Tryd.prog 5 #[v, .int .i64 cut] w fun e w' => e = .returned (.bool true) ∧ Below w.heap.size w w' := by
  by_cases hz : CrcM.sizeL cs ≤ 6000000
  · by_cases h1 : cut < 0
    · exact torn_core cs cut _ true _ v w hs h hT hz (Nat.le_refl _) (decide_eq_true h1) rfl (.inl ⟨rfl, rfl⟩)
    · by_cases h2 : ((CrcM.sizeL cs : Nat) : Int) < cut
      · exact torn_core cs cut _ false true v w hs h hT hz (Nat.le_refl _) (decide_eq_false h1) (decide_eq_true h2) (.inr (.inl ⟨rfl, rfl, rfl⟩))
      · exact torn_core cs cut cut.toNat false false v w hs h hT hz (by omega) (decide_eq_false h1) (decide_eq_false h2) (.inr (.inr ⟨rfl, rfl, by omega⟩))
  · have FIT : Hid (Calls Tryd.prog 17 #[v] w fun e w' => e = .returned (.bool false) ∧ w' = w) := (fits_at cs _ w hs h).mono fun e w' ⟨h1, h2⟩ => ⟨by rw [h1, decide_eq_false hz], h2⟩
    obtain ⟨ao, cap, rfl, hcap⟩ := h.len
    clear h hT hs
    generalize cs.length = L at *
    go_enter Tryd.func5, Tryd.ntmps5
    go_wp2_with fail
    refine FIT.out.mono ?_
    rintro e w0 ⟨rfl, rfl⟩
    go_wp2_with fail
    go_ret
    exact ⟨rfl, Below.refl _ _⟩
end Go.Proofs.YtbalmfghihgmgacDoor
