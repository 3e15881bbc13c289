/-
  Ours: the walk of ScriptReadsBack.
-/
import Derived.Test.YtcbdbjejodpnaaaDoorScOwr
import Derived.Test.YtcbdbjejodpnaaaDoorScNm2
namespace Go.Proofs.YtcbdbjejodpnaaaDoor
open Go.RowKit Go.Lib

theorem number_at (pre rest : List UInt8) (n : Int) (h0 : -9223372036854775808 ≤ n) (h1 : n ≤ 9223372036854775807) (T : List UInt8) (hT : T = pre ++ (itoa n ++ rest)) (hr : rest.length = 0 ∨ rest.getD 0 0 = 32) (hl : T.length ≤ 1000000000) (w : World) :
    Calls Tryd.prog 7 #[.string ⟨T.toArray⟩, .int .i64 (pre.length : Int)] w fun e w' => e = .returned (.tuple #[.int .i64 n, .int .i64 ((pre.length + (itoa n).length : Nat) : Int)]) ∧ w' = w := by
  by_cases hn : n < 0
  · obtain ⟨N, rfl⟩ : ∃ N : Nat, n = -(N : Int) := ⟨n.natAbs, by omega⟩
    have e := itoa_neg N (by omega)
    rw [e] at hT ⊢
    have hT2 : T = (pre ++ [45]) ++ (decDigits N ++ rest) := by rw [hT]; simp
    have hd : DgI T (decDigits N) (pre.length + 1) := by
      have := DgI.of (pre := pre ++ [45]) (D := decDigits N) hr
      rw [← hT2] at this
      simpa using this
    have hm : T.getD pre.length 0 = 45 := by
      rw [hT, List.getD_eq_getElem?_getD, List.getElem?_append_right (Nat.le_refl _), Nat.sub_self]; rfl
    refine (number_neg T (pre.length + 1) N w hl hd (by omega) (by omega) pre.length rfl hm).mono ?_
    rintro e w' ⟨rfl, hw⟩
    refine ⟨?_, hw⟩
    rw [List.length_cons, show pre.length + 1 + (decDigits N).length = pre.length + ((decDigits N).length + 1) by omega]
  · obtain ⟨N, rfl⟩ : ∃ N : Nat, n = (N : Int) := ⟨n.toNat, by omega⟩
    rw [itoa_nonneg] at hT ⊢
    have hd : DgI T (decDigits N) pre.length := by
      have := DgI.of (pre := pre) (D := decDigits N) hr
      rw [← hT] at this
      exact this
    exact number_pos T pre.length N w hl hd (by omega)

theorem nums_head (zs : List Int) : (numsL zs).length = 0 ∨ (numsL zs).getD 0 0 = 32 := by
  cases zs with
  | nil => exact .inl rfl
  | cons z r => exact .inr rfl
theorem show_cut (err : Int) (zs : List Int) (k : Nat) (h : k < zs.length) : showL err zs = showL err (zs.take k) ++ (32 :: (itoa (zs.getD k 0) ++ numsL (zs.drop (k + 1)))) := by
  have e : zs = zs.take k ++ zs.getD k 0 :: zs.drop (k + 1) := by rw [List.getD_eq_getElem?_getD, List.getElem?_eq_getElem h]; simp
  have e2 : numsL zs = numsL (zs.take k) ++ (32 :: (itoa (zs.getD k 0) ++ numsL (zs.drop (k + 1)))) := by
    have := congrArg numsL e
    rw [numsL_app] at this
    rw [this]; rfl
  rw [showL, e2, showL, List.append_assoc]
/-- What stands behind k of the numbers. -/
structure SkI (err : Int) (zs : List Int) (T : List UInt8) (k A : Nat) : Prop where
  lt : A < T.length
  bl : T.getD A 0 = 32
  nx : A + 1 + (itoa (zs.getD k 0)).length = (showL err (zs.take (k + 1))).length
theorem sk_of {err : Int} {zs : List Int} {k : Nat} (h : k < zs.length) : SkI err zs (showL err zs) k (showL err (zs.take k)).length := by
  have hc := show_cut err zs k h
  refine ⟨by rw [hc]; simp, ?_, ?_⟩
  · rw [hc, List.getD_eq_getElem?_getD, List.getElem?_append_right (Nat.le_refl _), Nat.sub_self]; rfl
  · rw [show_next err zs k h]; simp; omega
theorem num_of {err : Int} {zs : List Int} {k : Nat} (h : k < zs.length) (hR : Rep err zs) (w : World) :
    Calls Tryd.prog 7 #[.string ⟨(showL err zs).toArray⟩, .int .i64 (((showL err (zs.take k)).length + 1 : Nat) : Int)] w fun e w' => e = .returned (.tuple #[.int .i64 (zs.getD k 0), .int .i64 (((showL err (zs.take (k + 1))).length : Nat) : Int)]) ∧ w' = w := by
  have hz := hR.at k
  have hl := hR.lenk zs.length
  rw [List.take_of_length_le (Nat.le_refl _)] at hl
  have hT : showL err zs = (showL err (zs.take k) ++ [32]) ++ (itoa (zs.getD k 0) ++ numsL (zs.drop (k + 1))) := by rw [show_cut err zs k h]; simp
  have := number_at (showL err (zs.take k) ++ [32]) (numsL (zs.drop (k + 1))) (zs.getD k 0) hz.1 hz.2 _ hT (nums_head _) (by omega) w
  rw [List.length_append, List.length_singleton, (sk_of h).nx] at this
  exact this

theorem pre_str (T : List UInt8) (n : Nat) (a b : List UInt8) (h : T = a ++ b) (hn : a.length = n) (W : World) : (Instr.slice 9 (.string ⟨T.toArray⟩) none (some (.int .i64 (n : Int))) none).run Tryd.prog W = .ok (.string ⟨a.toArray⟩) W := by
  subst h hn
  have hu : Tryd.prog.underlying 9 = some .string := by kernel_rfl
  have hs : ({ data := (a ++ b).toArray } : ByteArray).size = a.length + b.length := by show (a ++ b).length = _; simp
  have he : ({ data := (a ++ b).toArray } : ByteArray).extract 0 a.length = { data := a.toArray } := by
    apply ByteArray.ext
    rw [ByteArray.data_extract]
    simp
  generalize ({ data := (a ++ b).toArray } : ByteArray) = S at *
  go_simp
  intro h
  omega
set_option maxRecDepth 20000 in
set_option maxHeartbeats 4000000 in
theorem readsBack_any (err : Int) (zs : List Int) (ao : Option Addr) (cap : Nat) (w : World) (e0 : -9223372036854775808 ≤ err) (e1 : err ≤ 9223372036854775807) (hz : ∀ z ∈ zs, -9223372036854775808 ≤ z ∧ z ≤ 9223372036854775807) (h : Rd w (.slice ao zs.length cap) (zs.map iv)) (htab : TabW w) :
    Calls Tryd.prog 3 #[RpV err (.slice ao zs.length cap)] w fun e w' => e = .returned (.bool true) ∧ Below w.heap.size w w' := by
  have b0 := below_alloc w (.cells #[.int .i64 err, .slice ao zs.length cap] 25)
  have K0 : Blk w.heap.size 25 [.int .i64 err, .slice ao zs.length cap] (w.alloc (.cells #[.int .i64 err, .slice ao zs.length cap] 25)) := Blk.new _ [.int .i64 err, .slice ao zs.length cap] w
  obtain ⟨W, hW⟩ : ∃ W, w.alloc (.cells #[.int .i64 err, .slice ao zs.length cap] 25) = W := ⟨_, rfl⟩
  rw [hW] at b0 K0
  have q0 := K0.cell 0 _ rfl
  have q1 := K0.cell 1 _ rfl
  have KW : Hid (Blk w.heap.size 25 [.int .i64 err, .slice ao zs.length cap] W) := K0
  have BW : Hid (Below w.heap.size w W) := b0
  clear K0 b0
  by_cases hbig : (200000 : Int) < (zs.length : Int)
  · clear h hz htab
    generalize zs.length = L at *
    go_enter Tryd.func3, Tryd.ntmps3
    go_wp2_with fail
    go_ret
    exact ⟨rfl, BW.out⟩
  have HR : Hid (Rep err zs) := ⟨e0, e1, hz, by omega⟩
  have OW : Hid (Calls Tryd.prog 5 #[RpV err (.slice ao zs.length cap)] W fun e w' => ∃ g c, e = .returned (.tuple #[RpV err (.slice (some ⟨g, 0, none⟩) zs.length c), .slice (some ⟨g, 0, none⟩) (zs.length + 1) c]) ∧ zs.length + 1 ≤ c ∧ RowV 2 W.heap.size w' (.slice (some ⟨g, 0, none⟩) (zs.length + 1) c) (zs.map iv ++ [iv (-77)]) ∧ Below W.heap.size W w') := ownReply_at err zs ao cap W (by omega) (Rd.later h BW.out)
  have SW : Hid (∀ g c w', Rd w' (.slice (some ⟨g, 0, none⟩) zs.length c) (zs.map iv) → TabW w' → Calls Tryd.prog 6 #[RpV err (.slice (some ⟨g, 0, none⟩) zs.length c)] w' fun e w'' => e = .returned (.string ⟨(showL err zs).toArray⟩) ∧ Below w'.heap.size w' w'') := fun g c w' h1 h2 => show_at err zs _ c w' HR.out h1 h2
  have HT : Hid (TabW w) := htab
  have HC : Hid (∀ i, i < zs.length → ∃ g o, ao = some ⟨g, o, none⟩ ∧ g < w.heap.size ∧ w.cell? ⟨g, o + i, none⟩ = some (.int .i64 (zs.getD i 0))) := (rd_iv h).2.2
  have hcap := (rd_iv h).2.1
  have HSK : Hid (∀ k, k < zs.length → SkI err zs (showL err zs) k (showL err (zs.take k)).length) := fun k hk => sk_of hk
  have HNU : Hid (∀ k w, k < zs.length → Calls Tryd.prog 7 #[.string ⟨(showL err zs).toArray⟩, .int .i64 (((showL err (zs.take k)).length + 1 : Nat) : Int)] w fun e w' => e = .returned (.tuple #[.int .i64 (zs.getD k 0), .int .i64 (((showL err (zs.take (k + 1))).length : Nat) : Int)]) ∧ w' = w) := fun k w hk => num_of hk HR.out w
  have HTL := HR.out.lenk zs.length
  rw [List.take_of_length_le (Nat.le_refl _)] at HTL
  have HLL : Hid (∀ k, (showL err (zs.take k)).length ≤ 22000027) := fun k => (HR.out.lenk k).1
  have HFL : Hid ((showL err (zs.take zs.length)).length = (showL err zs).length) := by show _ = _; rw [List.take_of_length_le (Nat.le_refl _)]
  have HCUT : Hid (∀ (w1 : World) g c, RowV 2 W.heap.size w1 (.slice (some ⟨g, 0, none⟩) (zs.length + 1) c) (zs.map iv ++ [iv (-77)]) → Rd w1 (.slice (some ⟨g, 0, none⟩) zs.length c) (zs.map iv)) := fun w1 g c r => by
    have := Rd.cut (k := zs.length) (RowV.rd r) (by omega)
    have e : (zs.map iv ++ [iv (-77)]).take zs.length = zs.map iv := by rw [List.take_append_of_le_length (by simp), List.take_of_length_le (by simp)]
    rw [e] at this
    exact this
  have HEQ : Hid (showL err zs = headL err ++ numsL zs) := rfl
  have HA00 : Hid ((showL err (zs.take 0)).length = (headL err).length) := by show _ = _; simp [showL, numsL]
  have HNE : Hid (err ≠ 0 → ∀ w, Calls Tryd.prog 7 #[.string ⟨(showL err zs).toArray⟩, .int .i64 6] w fun e w' => e = .returned (.tuple #[.int .i64 err, .int .i64 ((headL err).length : Nat)]) ∧ w' = w) := fun hne w => by
    have eh : headL err = [101, 114, 114, 111, 114, 32] ++ itoa err := by unfold headL; rw [if_neg hne]
    have := number_at [101, 114, 114, 111, 114, 32] (numsL zs) err e0 e1 (showL err zs) (by rw [showL, eh, List.append_assoc]) (nums_head zs) (by omega) w
    rw [eh]
    refine this.mono ?_
    rintro e w' ⟨rfl, hw⟩
    refine ⟨?_, hw⟩
    simp
    omega
  clear h hz htab
  generalize zs.length = L at *
  generalize hTT : showL err zs = T at *
  obtain ⟨LT, hLT⟩ : ∃ LT, T.length = LT := ⟨_, rfl⟩
  have HLT : Hid (T.length = LT) := hLT
  have hsz : ({ data := T.toArray } : ByteArray).size = LT := hLT
  have hLTb : LT ≤ 22000027 := by omega
  clear hLT HTL hTT
  go_enter Tryd.func3, Tryd.ntmps3
  go_wp2_with fail
  refine OW.out.mono ?_
  rintro e w1 ⟨g, c, rfl, hgc, r1, b1⟩
  have bA := below_alloc w1 (.cells #[.int .i64 err, .slice (some ⟨g, 0, none⟩) L c] 25)
  have S2 := SW.out g c (w1.alloc (.cells #[.int .i64 err, .slice (some ⟨g, 0, none⟩) L c] 25)) (Rd.later (HCUT.out w1 g c r1) bA) (tab_below HT.out (below_trans BW.out (below_trans b1 bA)))
  have S2' : Hid (Calls Tryd.prog 6 #[RpV err (.slice (some ⟨g, 0, none⟩) L c)] (w1.alloc (.cells #[.int .i64 err, .slice (some ⟨g, 0, none⟩) L c] 25)) fun e w'' => e = .returned (.string ⟨T.toArray⟩) ∧ Below (w1.alloc (.cells #[.int .i64 err, .slice (some ⟨g, 0, none⟩) L c] 25)).heap.size (w1.alloc (.cells #[.int .i64 err, .slice (some ⟨g, 0, none⟩) L c] 25)) w'') := S2
  have bW2 := below_trans b1 bA
  clear S2 r1 OW SW HCUT
  go_wp2_with fail
  refine S2'.out.mono ?_
  rintro e w3 ⟨rfl, b3⟩
  have BW3 := below_trans bW2 b3
  have K3 := KW.out.below BW3
  have q0 := K3.cell 0 _ rfl
  have q1 := K3.cell 1 _ rfl
  have B3 := below_trans BW.out BW3
  clear S2' K3 KW BW b1 bA bW2 b3 BW3 hW HR HT
  by_cases herr : err = 0
  · have eh : headL err = [111, 107] := by unfold headL; rw [if_pos herr]
    have dz : (err == 0) = true := by rw [herr]; rfl
    have hT2 : T = [111, 107] ++ numsL zs := by rw [HEQ.out, eh]
    have HA0 : Hid (2 = (showL err (zs.take 0)).length) := by show _ = _; rw [HA00.out, eh]; rfl
    have l2 : 2 ≤ LT := by have := HLT.out; rw [hT2] at this; simp at this; omega
    have dl : ¬ (LT : Int) < 2 := by omega
    have sl : ∀ W, (Instr.slice 9 (.string ⟨T.toArray⟩) none (some (.int .i64 2)) none).run Tryd.prog W = .ok (.string ⟨#[111, 107]⟩) W := fun W => pre_str T 2 [111, 107] (numsL zs) hT2 rfl W
    obtain ⟨A0, hA0⟩ : ∃ A0, A0 = 2 := ⟨_, rfl⟩
    rw [← hA0] at HA0
    have eA0 : ((2 : Nat) : Int) = 2 := rfl
    clear eh herr HEQ HA00 HNE hT2
    subst hA0
    go_wp2_with fail
    go_loopw [6, 9] (fun va vk wr => ∃ (k A : Nat), wr = w3 ∧ vk = .int .i64 (k : Int) ∧ k ≤ L ∧ va = .int .i64 (A : Int) ∧ Hid (A = (showL err (zs.take k)).length)) (fun _ vk _ => L - (RowKit.intOf vk).toNat)
    case atStart => exact ⟨0, 2, rfl, rfl, by omega, rfl, HA0⟩
    case round =>
      obtain ⟨k, A, rfl, rfl, hk, rfl, HA⟩ := hrel
      by_cases hlt : (k : Int) < (L : Int)
      · obtain ⟨g', o', ea, glt, cc⟩ := HC.out k (by omega)
        have cc2 : wr.cell? ⟨g', o' + k, none⟩ = some (.int .i64 (zs.getD k 0)) := (B3.cell (p := ⟨g', o' + k, none⟩) glt).trans cc
        subst ea
        have sk := HSK.out k (by omega)
        rw [← HA.out] at sk
        have NU : Hid (∀ w, Calls Tryd.prog 7 #[.string ⟨T.toArray⟩, .int .i64 ((A + 1 : Nat) : Int)] w fun e w' => e = .returned (.tuple #[.int .i64 (zs.getD k 0), .int .i64 (((showL err (zs.take (k + 1))).length : Nat) : Int)]) ∧ w' = w) := fun w => by have := HNU.out k w (by omega); rw [← HA.out] at this; exact this
        have hA2 := HLL.out k
        rw [← HA.out] at hA2
        have hAT : (A : Int) < (LT : Int) := by have := sk.lt; have := HLT.out; omega
        have ix := idx_str T A (by have := sk.lt; omega)
        rw [sk.bl] at ix
        have ix' : ∀ w, (Instr.index 9 (.string ⟨T.toArray⟩) (.int .i64 (A : Int))).run Tryd.prog w = .ok (.int .u8 32) w := ix
        have dn : ((zs.getD k 0) != (zs.getD k 0)) = false := by simp
        have HB : Hid ((showL err (zs.take (k + 1))).length = (showL err (zs.take (k + 1))).length) := rfl
        have dneg : ¬ (((showL err (zs.take (k + 1))).length : Nat) : Int) < 0 := by omega
        clear cc glt HC HSK HNU HLL sk ix HA
        generalize zs.getD k 0 = Z at *
        obtain ⟨A1, hA1⟩ : ∃ A1, (showL err (zs.take (k + 1))).length = A1 := ⟨_, rfl⟩
        have HA1 : Hid (A1 = (showL err (zs.take (k + 1))).length) := hA1.symm
        rw [hA1] at NU dneg
        clear hA1 HB
        go_wp2_with fail
        refine (NU.out _).mono ?_
        rintro e w4 ⟨rfl, hw⟩; rw [hw]; clear hw w4
        go_wp2_with fail
        go_roundw
        case rel => exact ⟨k + 1, A1, by trivial, by go_num, by omega, rfl, HA1⟩
        case measure => simp [RowKit.intOf]; omega
      · obtain rfl : k = L := by omega
        have hAE : A = LT := by rw [HA.out, HFL.out]; exact HLT.out
        have dq : (((A : Nat) : Int) == (LT : Int)) = true := by rw [hAE]; simp
        clear hAE HC HSK HNU HLL HA
        go_wp2_with fail
        go_ret
        exact ⟨rfl, B3⟩
  · have eh : headL err = [101, 114, 114, 111, 114, 32] ++ itoa err := by unfold headL; rw [if_neg herr]
    have dz : (err == 0) = false := by rw [beq_eq_false_iff_ne]; exact herr
    have hT2 : T = [101, 114, 114, 111, 114, 32] ++ (itoa err ++ numsL zs) := by rw [HEQ.out, eh, List.append_assoc]
    have hi := itoa_len err e0 e1
    have HA0 : Hid ((headL err).length = (showL err (zs.take 0)).length) := HA00.out.symm
    have l2 : 7 ≤ LT := by have := HLT.out; rw [hT2] at this; simp at this; omega
    have dl : ¬ (LT : Int) < 7 := by omega
    have sl : ∀ W, (Instr.slice 9 (.string ⟨T.toArray⟩) none (some (.int .i64 6)) none).run Tryd.prog W = .ok (.string ⟨#[101, 114, 114, 111, 114, 32]⟩) W := fun W => pre_str T 6 [101, 114, 114, 111, 114, 32] (itoa err ++ numsL zs) hT2 rfl W
    have NE : Hid (∀ w, Calls Tryd.prog 7 #[.string ⟨T.toArray⟩, .int .i64 6] w fun e w' => e = .returned (.tuple #[.int .i64 err, .int .i64 ((headL err).length : Nat)]) ∧ w' = w) := HNE.out herr
    have de : (err != err) = false := by simp
    have dneg0 : ¬ (((headL err).length : Nat) : Int) < 0 := by omega
    clear eh herr HEQ HA00 HNE hT2 hi
    generalize (headL err).length = A0 at *
    go_wp2_with fail
    refine (NE.out _).mono ?_
    rintro e w4 ⟨rfl, hw⟩; rw [hw]; clear hw w4
    go_wp2_with fail
    go_loopw [6, 9] (fun va vk wr => ∃ (k A : Nat), wr = w3 ∧ vk = .int .i64 (k : Int) ∧ k ≤ L ∧ va = .int .i64 (A : Int) ∧ Hid (A = (showL err (zs.take k)).length)) (fun _ vk _ => L - (RowKit.intOf vk).toNat)
    case atStart => exact ⟨0, A0, rfl, rfl, by omega, rfl, HA0⟩
    case round =>
      obtain ⟨k, A, rfl, rfl, hk, rfl, HA⟩ := hrel
      by_cases hlt : (k : Int) < (L : Int)
      · obtain ⟨g', o', ea, glt, cc⟩ := HC.out k (by omega)
        have cc2 : wr.cell? ⟨g', o' + k, none⟩ = some (.int .i64 (zs.getD k 0)) := (B3.cell (p := ⟨g', o' + k, none⟩) glt).trans cc
        subst ea
        have sk := HSK.out k (by omega)
        rw [← HA.out] at sk
        have NU : Hid (∀ w, Calls Tryd.prog 7 #[.string ⟨T.toArray⟩, .int .i64 ((A + 1 : Nat) : Int)] w fun e w' => e = .returned (.tuple #[.int .i64 (zs.getD k 0), .int .i64 (((showL err (zs.take (k + 1))).length : Nat) : Int)]) ∧ w' = w) := fun w => by have := HNU.out k w (by omega); rw [← HA.out] at this; exact this
        have hA2 := HLL.out k
        rw [← HA.out] at hA2
        have hAT : (A : Int) < (LT : Int) := by have := sk.lt; have := HLT.out; omega
        have ix := idx_str T A (by have := sk.lt; omega)
        rw [sk.bl] at ix
        have ix' : ∀ w, (Instr.index 9 (.string ⟨T.toArray⟩) (.int .i64 (A : Int))).run Tryd.prog w = .ok (.int .u8 32) w := ix
        have dn : ((zs.getD k 0) != (zs.getD k 0)) = false := by simp
        have HB : Hid ((showL err (zs.take (k + 1))).length = (showL err (zs.take (k + 1))).length) := rfl
        have dneg : ¬ (((showL err (zs.take (k + 1))).length : Nat) : Int) < 0 := by omega
        clear cc glt HC HSK HNU HLL sk ix HA
        generalize zs.getD k 0 = Z at *
        obtain ⟨A1, hA1⟩ : ∃ A1, (showL err (zs.take (k + 1))).length = A1 := ⟨_, rfl⟩
        have HA1 : Hid (A1 = (showL err (zs.take (k + 1))).length) := hA1.symm
        rw [hA1] at NU dneg
        clear hA1 HB
        go_wp2_with fail
        refine (NU.out _).mono ?_
        rintro e w4 ⟨rfl, hw⟩; rw [hw]; clear hw w4
        go_wp2_with fail
        go_roundw
        case rel => exact ⟨k + 1, A1, by trivial, by go_num, by omega, rfl, HA1⟩
        case measure => simp [RowKit.intOf]; omega
      · obtain rfl : k = L := by omega
        have hAE : A = LT := by rw [HA.out, HFL.out]; exact HLT.out
        have dq : (((A : Nat) : Int) == (LT : Int)) = true := by rw [hAE]; simp
        clear hAE HC HSK HNU HLL HA
        go_wp2_with fail
        go_ret
        exact ⟨rfl, B3⟩
end Go.Proofs.YtcbdbjejodpnaaaDoor
