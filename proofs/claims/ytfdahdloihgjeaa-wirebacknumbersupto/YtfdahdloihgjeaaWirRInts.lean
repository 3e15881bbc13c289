/-
  Ours: the reference's PutInts; the law WirePutsList walked.
-/
import Derived.Test.YtfdahdloihgjeaaWirList
import Derived.Test.YtfdahdloihgjeaaWirNear
namespace Go.Proofs.Ytfdahdloihgjeaa
open Go.RowKit

theorem RdB.at {w : World} {ao : Option Addr} {n cap : Nat} {bs : List Nat} (h : RdB w (.slice ao n cap) bs) {i : Nat} (hi : i < bs.length) : ∃ g o, ao = some ⟨g, o, none⟩ ∧ g < w.heap.size ∧ w.cell? ⟨g, o + i, none⟩ = some (.int .u8 (bs.getD i 0 : Nat)) := by
  obtain ⟨ao', cap', e, _, _, H⟩ := h
  cases e
  obtain ⟨g, o, e1, lt, e2⟩ := H i (by rw [List.length_map]; exact hi)
  refine ⟨g, o, e1, lt, ?_⟩
  rw [e2, List.getElem_map, List.getD_eq_getElem?_getD, List.getElem?_eq_getElem hi]; rfl

theorem take_step (bs : List Nat) (k : Nat) (h : k < bs.length) : bs.take (k + 1) = bs.take k ++ [bs.getD k 0] := by
  rw [List.take_add_one, List.getD_eq_getElem?_getD, List.getElem?_eq_getElem h]; rfl

set_option maxRecDepth 20000 in
set_option maxHeartbeats 4000000 in
theorem rputInts_at (xs : List Int) (v : Value) (w : World) (hx : I64s xs) (hl : xs.length ≤ 1000000000000) (h : RdI w v xs) : Calls Try.prog 13 #[v] w (NewB w (putL xs)) := by
  obtain ⟨i0, hi, hz0, hz1, hz2⟩ := info_parts infoB
  have U : Hid (Calls Try.prog 22 #[.int .u64 (xs.length : Int)] w (NewB w (put xs.length))) := rputUint_at _ (by omega) w
  obtain ⟨L, hL⟩ : ∃ L, xs.length = L := ⟨_, rfl⟩
  obtain ⟨ao, cap, rfl, hcap, hn, H⟩ := h
  have HH : Hid (∀ i (h : i < L), ∃ g o, ao = some ⟨g, o, none⟩ ∧ g < w.heap.size ∧ w.cell? ⟨g, o + i, none⟩ = some (.int .i64 (xs.getD i 0)) ∧ putFs (xs.take (i + 1)) = putFs (xs.take i) ++ putI (xs.getD i 0) ∧ (-9223372036854775808 ≤ xs.getD i 0 ∧ xs.getD i 0 ≤ 9223372036854775807)) := fun i hi => by
    obtain ⟨g, o, e1, lt, e2⟩ := H i (by rw [List.length_map]; omega)
    refine ⟨g, o, e1, lt, ?_, putFs_step xs i (by omega), ?_⟩
    · rw [e2, List.getElem_map, List.getD_eq_getElem?_getD, List.getElem?_eq_getElem (by omega)]; rfl
    · rw [List.getD_eq_getElem?_getD, List.getElem?_eq_getElem (by omega)]; exact hx _ (List.getElem_mem _)
  have LN : Hid (∀ k, k ≤ L → (put L ++ putFs (xs.take k)).length ≤ 10 + 10 * k) := fun k hk => by
    have h1 := put_len10 L (by omega)
    have h2 := putFs_len _ (hx.take k)
    rw [List.length_take] at h2
    rw [List.length_append]
    omega
  have PF : Hid (put L ++ putFs (xs.take L) = putL xs) := by show _ = _; rw [List.take_of_length_le (by omega)]; unfold putL; rw [hL]
  rw [List.length_map, hL] at hcap ⊢
  rw [hL] at U
  have hl' : L ≤ 1000000000000 := by omega
  clear H hL hl hx
  go_enter Try.func13, Try.ntmps13
  go_wp2_with fail
  refine U.out.mono ?_
  rintro e w1 ⟨v1, rfl, r1, b1⟩
  go_wp2_with fail
  go_loopw [3, 4] (fun v vk wr => ∃ k : Nat, vk = .int .i64 (k : Int) ∧ k ≤ L ∧ RowB 5 w.heap.size wr v (put L ++ putFs (xs.take k)) ∧ Below w.heap.size w wr) (fun _ vk _ => L - (intOf vk).toNat)
  case atStart => exact ⟨0, rfl, by omega, by simpa [putFs] using r1, b1⟩
  case round =>
    obtain ⟨k, rfl, hk, hown, hnx⟩ := hrel
    have hsz := hnx.size
    by_cases hlt : (k : Int) < (L : Int)
    · obtain ⟨g, o, rfl, lt, cc, ct, xb⟩ := HH.out k (by omega)
      have c2 : wr.cell? ⟨g, o + k, none⟩ = some (.int .i64 (xs.getD k 0)) := (hnx.cell (p := ⟨g, o + k, none⟩) lt).trans cc
      have CT : Hid (putFs (xs.take (k + 1)) = putFs (xs.take k) ++ putI (xs.getD k 0)) := ct
      have l0 := LN.out k hk
      clear ct cc
      have PI : Hid (∀ w, Calls Try.prog 23 #[.int .i64 (xs.getD k 0)] w (NewB w (putI (xs.getD k 0)))) := fun w => rputInt_at _ xb.1 xb.2 w
      have l3 := putI_len _ xb
      clear xb
      generalize xs.getD k 0 = x at *
      go_wp2_with fail
      refine (PI.out _).mono ?_
      rintro e w2 ⟨v2, rfl, r2, b2⟩
      have own2 := RowV.later hown b2
      have rd2 : RdB w2 v2 (putI x) := RowV.rd r2
      have nx2 := hnx.trans (b2.mono hsz)
      have AP : Hid (∀ g, v2.ownBlock = some g → wr.heap.size ≤ g) := fun g hg => r2.block_ge hg
      obtain ⟨a2, k2, rfl, hk2, hn2⟩ := rd2.len
      generalize putI x = ts at *
      obtain ⟨M, hM⟩ : ∃ M, ts.length = M := ⟨_, rfl⟩
      rw [List.length_map, hM] at hk2 rd2 AP ⊢
      have HM : Hid (ts.length = M) := hM
      have HR : Hid (RdB w2 (.slice a2 M k2) ts) := rd2
      have HW : Hid (wr.heap.size ≤ w2.heap.size) := b2.size
      rw [hM] at l3
      clear rd2 r2 hM b2
      go_wp2_with fail
      have own2' : RowB 5 w.heap.size w2 u3 (put L ++ putFs (xs.take k) ++ ts.take 0) := by rw [List.take_zero, List.append_nil]; exact own2
      have ap0 : ∀ g, (Value.slice a2 M k2).ownBlock = some g → u3.ownBlock ≠ some g := fun g h1 h2 => by
        have := AP.out g h1
        have := hown.block_lt h2
        omega
      go_loopw [3, 6] (fun v vj w' => ∃ j : Nat, vj = .int .i64 (j : Int) ∧ j ≤ M ∧ RowB 5 w.heap.size w' v (put L ++ putFs (xs.take k) ++ ts.take j) ∧ Below w.heap.size w w' ∧ RdB w' (.slice a2 M k2) ts ∧ Hid (∀ g, (Value.slice a2 M k2).ownBlock = some g → v.ownBlock ≠ some g)) (fun _ vj _ => M - (intOf vj).toNat)
      case atStart => exact ⟨0, rfl, by omega, own2', nx2, HR.out, ap0⟩
      case round =>
        clear own2 own2' nx2 ap0 hown hnx
        obtain ⟨j, rfl, hj, hown, hnx, hrd, ap⟩ := hrel
        have hsz := hnx.size
        by_cases hjt : (j : Int) < (M : Int)
        · obtain ⟨g2, o2, rfl, lt2, cc⟩ := RdB.at hrd (i := j) (by rw [HM.out]; omega)
          have TS : Hid (ts.take (j + 1) = ts.take j ++ [ts.getD j 0]) := take_step ts j (by rw [HM.out]; omega)
          have ll : (put L ++ putFs (xs.take k) ++ ts.take j).length ≤ 10 + 10 * k + 10 := by
            rw [List.length_append, List.length_take]; omega
          have l1 : ((put L ++ putFs (xs.take k) ++ ts.take j).map bv).length + 1 ≤ maxLen := by rw [List.length_map]; unfold maxLen; omega
          have l2 : (((put L ++ putFs (xs.take k) ++ ts.take j).map bv).length + 1) * 1 ≤ 140737488355328 := by rw [List.length_map]; omega
          generalize ts.getD j 0 = y at *
          have HR2 : Hid (RdB wr (.slice (some ⟨g2, o2, none⟩) M k2) ts) := hrd
          clear hrd ll
          go_wp2_with (at_builtin; refine wpList_pushN rfl (.tmp 28) (.tmp 33) 25 rfl 5 i0 (.int .u8 0) 1 underB hi hz0 hz1 hz2 rfl w.heap.size _ _ _ rfl rfl hown hsz rfl l1 l2 ?_; intro v' w3 hown' hgr hnr)
          have hb : Below w.heap.size w w3 := below_grown hnx hown (Nat.le_refl _) hsz hgr
          have r3 : RdB w3 (.slice (some ⟨g2, o2, none⟩) M k2) ts := Rd.grown HR2.out hgr (fun g h1 h2 => ap.out g h1 h2)
          have ap3 : Hid (∀ g, (Value.slice (some ⟨g2, o2, none⟩) M k2).ownBlock = some g → v'.ownBlock ≠ some g) := fun g h1 h2 => by
            rcases hnr g h2 with h3 | h3
            · exact ap.out g h1 h3
            · simp [Value.ownBlock] at h1
              omega
          go_roundw
          case rel =>
            refine ⟨j + 1, by go_num, by omega, ?_, hb, r3, ap3⟩
            rw [TS.out, ← List.append_assoc]; exact rowB_push hown' rfl
          case measure => simp [intOf]; omega
        · obtain rfl : j = M := by omega
          have e3 : put L ++ putFs (xs.take k) ++ ts.take j = put L ++ putFs (xs.take (k + 1)) := by
            rw [List.take_of_length_le (l := ts) (by rw [HM.out]; exact Nat.le_refl _), CT.out, List.append_assoc]
          rw [e3] at hown
          go_wp2_with fail
          go_roundw
          case rel => exact ⟨k + 1, by go_num, by omega, hown, hnx⟩
          case measure => simp [intOf]; omega
    · obtain rfl : k = L := by omega
      rw [PF.out] at hown
      go_wp2_with fail
      go_ret
      exact ⟨_, rfl, hown, hnx⟩

set_option maxRecDepth 20000 in
set_option maxHeartbeats 4000000 in
theorem wirePutsList_any (xs : List Int) (v : Value) (w : World) (hx : I64s xs) (hl : xs.length ≤ 1048576) (h : RdI w v xs) :
    Calls Try.prog 3 #[v] w fun e w' => e = .returned (.bool true) ∧ Below w.heap.size w w' := by
  have NU : Hid (Calls Try.prog 9 #[v] w fun e w' => ∃ v', e = .returned v' ∧ RowI w.heap.size w' v' xs ∧ Below w.heap.size w w') := nums_at xs v w (by omega) h
  have PL : Hid (∀ w v, RdI w v xs → Calls Try.prog 11 #[v, .func (.func 12) #[] #[]] w (NewB w (putL xs))) := fun w v h => putList_at xs v w hx (by omega) h
  have PR : Hid (∀ w v, RdI w v xs → Calls Try.prog 13 #[v] w (NewB w (putL xs))) := fun w v h => rputInts_at xs v w hx (by omega) h
  have RV : Hid (∀ w', Below w.heap.size w w' → RdI w' v xs) := fun w' hb => Rd.later h hb
  have ll : Hid ((putL xs).length ≤ 140737488355328) := by
    show _ ≤ _
    have h1 := put_len10 xs.length (by omega)
    have h2 := putFs_len xs hx
    unfold putL; rw [List.length_append]; omega
  clear h hx
  go_enter Try.func3, Try.ntmps3
  go_wp2_with fail
  refine NU.out.mono ?_
  rintro e w1 ⟨v1, rfl, r1, b1⟩
  have R1 : Hid (∀ w', Below w1.heap.size w1 w' → RdI w' v1 xs) := fun w' hb => Rd.later (RowV.rd r1) hb
  clear r1
  go_wp2_with fail
  refine (PL.out _ _ (R1.out _ (Below.refl _ _))).mono ?_
  rintro e w2 ⟨v2, rfl, r2, b2⟩
  have B2 := below_trans b1 b2
  go_wp2_with fail
  refine (PR.out _ _ (RV.out _ B2)).mono ?_
  rintro e w3 ⟨v3, rfl, r3, b3⟩
  have B3 := below_trans B2 b3
  have D3 := below_trans b2 b3
  have Q2 : Hid (RdB w3 v2 (putL xs)) := RowV.rd (RowV.later r2 b3)
  have Q3 : Hid (RdB w3 v3 (putL xs)) := RowV.rd r3
  clear r2 r3
  go_wp2_with fail
  refine (same_at _ _ _ _ _ ll.out Q2.out Q3.out).mono ?_
  rintro e w4 ⟨rfl, n4, rfl⟩
  rw [decide_eq_true rfl]
  go_wp2_with fail
  refine (sameNums_at xs xs _ _ _ (by omega) (R1.out _ (below_drewN D3 n4)) (RV.out _ (below_drewN B3 n4))).mono ?_
  rintro e w5 ⟨rfl, n5, rfl⟩
  rw [decide_eq_true rfl]
  go_wp2_with fail
  go_ret
  exact ⟨rfl, below_drewN B3 (n4 + n5)⟩
end Go.Proofs.Ytfdahdloihgjeaa
