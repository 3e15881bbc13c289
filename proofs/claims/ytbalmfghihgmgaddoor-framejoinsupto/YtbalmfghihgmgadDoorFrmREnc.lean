/-
  Ours: the reference's four, Encode, Join.
-/
import Derived.Test.YtbalmfghihgmgadDoorFrmJoin
import Derived.Test.YtbalmfghihgmgadDoorFrmRef
namespace Go.Proofs.YtbalmfghihgmgadDoor
open Go.RowKit

set_option maxHeartbeats 1000000 in
theorem rfour_at (x : Nat) (w : World) (hx : x < 4294967296) : Calls Tryd.prog 35 #[.int .i64 (x : Int)] w (NewB w (CrcM.four x)) := by
  obtain ⟨i0, hi, hz0, hz1, hz2⟩ := info_parts infoB
  have HT : Hid (∀ k, k < 4 → (CrcM.four x).take (k + 1) = (CrcM.four x).take k ++ [x / 256 ^ k % 256]) := fun k hk => four_take x k hk
  have H4 : Hid (CrcM.four x = (CrcM.four x).take 4) := rfl
  have HL : Hid (∀ k, ((CrcM.four x).take k).length ≤ 4) := fun k => by rw [List.length_take]; exact Nat.min_le_right _ _
  have Z0 : Hid ((CrcM.four x).take 0 = []) := rfl
  have HX : Hid (x < 4294967296) := hx
  clear hx
  obtain ⟨F4, hF4⟩ : ∃ F, CrcM.four x = F := ⟨_, rfl⟩
  rw [hF4] at HT H4 HL Z0 ⊢
  clear hF4
  go_enter Tryd.func35, Tryd.ntmps35
  go_wp2_with fail
  go_loopw [0, 3, 4] (fun vx vo vk wr => ∃ k : Nat, vk = .int .i64 (k : Int) ∧ k ≤ 4 ∧ vx = .int .i64 ((x / 256 ^ k : Nat) : Int) ∧ RowB 5 w.heap.size wr vo (F4.take k) ∧ Below w.heap.size w wr) (fun _ _ vk _ => 4 - (intOf vk).toNat)
  case atStart => exact ⟨0, rfl, by omega, by simp, by rw [Z0.out]; exact RowV.nil _ _ _, Below.refl _ _⟩
  case round =>
    obtain ⟨k, rfl, hk, rfl, hown, hnx⟩ := hrel
    have hsz := hnx.size
    by_cases hlt : (k : Int) < 4
    · have lt := HL.out k
      have l1 : ((F4.take k).map bv).length + 1 ≤ maxLen := by rw [List.length_map]; unfold maxLen; omega
      have l2 : (((F4.take k).map bv).length + 1) * 1 ≤ 140737488355328 := by rw [List.length_map]; omega
      have CT : Hid (F4.take (k + 1) = F4.take k ++ [x / 256 ^ k % 256]) := HT.out k (by omega)
      have DV : Hid (x / 256 ^ (k + 1) = x / 256 ^ k / 256) := by show _ = _; rw [Nat.pow_succ, Nat.div_div_eq_div_mul]
      have hy : x / 256 ^ k < 4294967296 := Nat.lt_of_le_of_lt (Nat.div_le_self _ _) HX.out
      generalize x / 256 ^ k = y at *
      clear lt
      go_wp2_with (at_builtin; refine wpList_pushV rfl (.tmp 9) (.tmp 13) 22 rfl 5 i0 (.int .u8 0) 1 underB hi hz0 hz1 hz2 rfl w.heap.size _ _ _ rfl rfl hown hsz rfl l1 l2 ?_; intro v' w2 hown' hgr)
      have hb : Below w.heap.size w w2 := below_grown hnx hown (Nat.le_refl _) hsz hgr
      go_wp2_with fail
      go_roundw
      case rel => exact ⟨k + 1, by go_num, by omega, by rw [DV.out]; go_num, by rw [CT.out]; exact rowB_push hown' (by omega), hb⟩
      case measure => simp [intOf]; omega
    · obtain rfl : k = 4 := by omega
      go_wp2_with fail
      go_ret
      exact ⟨_, rfl, by rw [H4.out]; exact hown, hnx⟩

set_option maxRecDepth 100000 in
set_option maxHeartbeats 2000000 in
theorem rencode_at (p : List Nat) (v : Value) (w : World) (hb : ∀ b ∈ p, b < 256) (hl : p.length ≤ 4194304) (h : RdB w v p) : Calls Tryd.prog 25 #[v] w (NewT w (CrcM.enc p)) := by
  obtain ⟨i0, hi, hz0, hz1, hz2⟩ := info_parts infoB
  obtain ⟨ao, cap, rfl, hcap, _⟩ := h.len
  have hl0 : (p.map bv).length = p.length := List.length_map ..
  have HH : Hid (∀ i, i < p.length → ∃ g o, ao = some ⟨g, o, none⟩ ∧ (∀ w', Below w.heap.size w w' → w'.cell? ⟨g, o + i, none⟩ = some (.int .u8 ((p.getD i 0 : Nat) : Int))) ∧ p.take (i + 1) = p.take i ++ [p.getD i 0]) := fun i hi => by
    obtain ⟨ao', c', e, _, _, H⟩ := h
    injection e with e1 e2 e3
    subst e1 e3
    obtain ⟨g, o, e1, lt, e2⟩ := H i (by rw [List.length_map]; omega)
    refine ⟨g, o, e1, fun w' hb' => ?_, ?_⟩
    · rw [hb'.cell (p := ⟨g, o + i, none⟩) lt, e2, getD_bv]
    · rw [List.take_add_one, List.getD_eq_getElem?_getD, List.getElem?_eq_getElem (by omega)]; rfl
  rw [hl0] at hcap ⊢
  have HB : Hid (∀ b ∈ CrcM.four p.length ++ p, b < 256) := fun b hb' => by
    rcases List.mem_append.1 hb' with h1 | h1
    · exact CrcM.four_lt _ b h1
    · exact hb b h1
  have HE : Hid (CrcM.enc p = CrcM.four p.length ++ p ++ CrcM.four (CrcM.sum (CrcM.four p.length ++ p))) := enc_eq p
  have HF : Hid (∀ x, (CrcM.four x).length = 4) := fun x => CrcM.four_len x
  have HS : Hid (CrcM.sum (CrcM.four p.length ++ p) < 4294967296) := CrcM.sum_lt
  have F1 : Hid (Calls Tryd.prog 35 #[.int .i64 (p.length : Int)] w (NewB w (CrcM.four p.length))) := rfour_at p.length w (by omega)
  have HPF : Hid (p.take p.length = p) := List.take_of_length_le (Nat.le_refl _)
  have HTL : Hid (∀ k, (p.take k).length ≤ p.length) := fun k => by rw [List.length_take]; exact Nat.min_le_right _ _
  clear h hb hl0
  generalize hL : p.length = L at *
  have HL : Hid (p.length = L) := hL
  clear hL
  have d0 : ¬ (4194304 : Int) < (L : Int) := by omega
  generalize hfl : CrcM.four L = FL at *
  have HFL : Hid (FL.length = 4) := by show _ = _; rw [← hfl]; exact CrcM.four_len L
  clear hfl
  go_enter Tryd.func25, Tryd.ntmps25
  go_wp2_with fail
  refine F1.out.mono ?_
  rintro e w1 ⟨v1, rfl, r1, b1⟩
  have R1 : Hid (RowB 5 w.heap.size w1 v1 (FL ++ p.take 0)) := by show RowV _ _ _ _ _; simpa using r1
  have B1 : Below w.heap.size w w1 := b1
  clear r1 b1 F1
  go_wp2_with fail
  go_loopw [4, 5] (fun v vk wr => ∃ k : Nat, vk = .int .i64 (k : Int) ∧ k ≤ L ∧ Hid (RowB 5 w.heap.size wr v (FL ++ p.take k)) ∧ Below w.heap.size w wr) (fun _ vk _ => L - (intOf vk).toNat)
  case atStart => exact ⟨0, rfl, by omega, R1, B1⟩
  case round =>
    clear R1 B1
    obtain ⟨k, rfl, hk, hown, hnx⟩ := hrel
    have hsz := hnx.size
    by_cases hlt : (k : Int) < (L : Int)
    · have lt := HTL.out k
      have l1 : ((FL ++ p.take k).map bv).length + 1 ≤ maxLen := by have := HFL.out; rw [List.length_map, List.length_append]; unfold maxLen; omega
      have l2 : (((FL ++ p.take k).map bv).length + 1) * 1 ≤ 140737488355328 := by have := HFL.out; rw [List.length_map, List.length_append]; omega
      clear lt
      obtain ⟨g, o, rfl, cc, ct⟩ := HH.out k (by omega)
      have c2 := cc wr hnx
      have CT : Hid (FL ++ p.take (k + 1) = FL ++ p.take k ++ [p.getD k 0]) := by show _ = _; rw [ct, List.append_assoc]
      clear ct cc
      have hown0 := hown.out
      generalize p.getD k 0 = x at *
      go_wp2_with (at_builtin; refine wpList_pushV rfl (.tmp 20) (.tmp 25) 22 rfl 5 i0 (.int .u8 0) 1 underB hi hz0 hz1 hz2 rfl w.heap.size _ _ _ rfl rfl hown0 hsz rfl l1 l2 ?_; intro v' w2 hown' hgr)
      have hb : Below w.heap.size w w2 := below_grown hnx hown0 (Nat.le_refl _) hsz hgr
      have HR2 : Hid (RowB 5 w.heap.size w2 v' (FL ++ p.take (k + 1))) := by show RowV _ _ _ _ _; rw [CT.out]; exact rowB_push hown' rfl
      clear hown' hown0 hgr hown
      go_roundw
      case rel => exact ⟨k + 1, by go_num, by omega, HR2, hb⟩
      case measure => simp [intOf]; omega
    · obtain rfl : k = L := by omega
      have HO := hown.out
      rw [HPF.out] at HO
      have HO' : Hid (RowB 5 w.heap.size wr u4 (FL ++ p)) := HO
      have SM : Hid (Calls Tryd.prog 33 #[u4] wr fun e w' => e = .returned (.int .u32 ((CrcM.sum (FL ++ p) : Nat) : Int)) ∧ w' = wr) := rsum_at _ _ wr HB.out (by have := HFL.out; have := HL.out; rw [List.length_append]; omega) (RowV.rd HO)
      have hsum := HS.out
      have F2 : Hid (Calls Tryd.prog 35 #[.int .i64 ((CrcM.sum (FL ++ p) : Nat) : Int)] wr (NewB wr (CrcM.four (CrcM.sum (FL ++ p))))) := rfour_at _ wr HS.out
      have HPL : Hid ((FL ++ p).length ≤ 4194312) := by have := HFL.out; have := HL.out; show _ ≤ _; rw [List.length_append]; omega
      clear HO hown
      generalize hSS : CrcM.sum (FL ++ p) = S at *
      clear hSS
      go_wp2_with fail
      refine SM.out.mono ?_
      rintro e w2 ⟨rfl, rfl⟩
      go_wp2_with fail
      refine F2.out.mono ?_
      rintro e w3 ⟨v3, rfl, r3, b3⟩
      generalize hFS : CrcM.four S = FS at *
      have HFS : Hid (FS.length = 4) := by show _ = _; rw [← hFS]; exact CrcM.four_len S
      have HFT : Hid (FS.take 4 = FS) := List.take_of_length_le (by have := HFS.out; omega)
      have HST : Hid (∀ i, i < 4 → FS.take (i + 1) = FS.take i ++ [FS.getD i 0]) := fun i hi => by rw [List.take_add_one, List.getD_eq_getElem?_getD, List.getElem?_eq_getElem (by have := HFS.out; omega)]; rfl
      have HSL : Hid (∀ k, (FS.take k).length ≤ 4) := fun k => by have := HFS.out; rw [List.length_take]; omega
      have B3 : Below w.heap.size w w3 := below_trans hnx b3
      have R3 : Hid (RowB 5 w.heap.size w3 u4 (FL ++ p ++ FS.take 0)) := by show RowV _ _ _ _ _; simpa using RowV.later HO'.out b3
      have S3 : Hid (RowB 5 w2.heap.size w3 v3 FS) := r3
      have UB : Hid (∀ g, u4.ownBlock = some g → g < w2.heap.size) := fun g hg => HO'.out.block_lt hg
      obtain ⟨g3, c3, e3, hc3, hcell3, _⟩ := RowV.own r3 (by rw [List.length_map]; have := HFS.out; omega)
      rw [List.length_map, HFS.out] at e3 hc3
      subst e3
      have S3R : Hid (∀ i w', i < 4 → RowB 5 w2.heap.size w' (.slice (some ⟨g3, 0, none⟩) 4 c3) FS → w'.cell? ⟨g3, i, none⟩ = some (.int .u8 ((FS.getD i 0 : Nat) : Int))) := fun i w' hi hr => by
        have := World.ownsRow.cells hr rfl i (.int .u8 ((FS.getD i 0 : Nat) : Int)) (by rw [List.getElem?_eq_getElem (by rw [List.length_map]; have := HFS.out; omega), getD_bv])
        rwa [show (⟨g3, 0, none⟩ : Addr).add i = ⟨g3, i, none⟩ by unfold Addr.add; split <;> simp_all] at this
      have NR : Hid (∀ a, (∀ g, a = some g → g < w2.heap.size ∨ ∃ n, n = g) → True) := fun _ _ => trivial
      clear r3 b3 hcell3 SM F2 HO' hFS NR
      go_wp2_with fail
      go_loopw [4, 7] (fun v vk wr => ∃ k : Nat, vk = .int .i64 (k : Int) ∧ k ≤ 4 ∧ Hid (RowB 5 w.heap.size wr v (FL ++ p ++ FS.take k)) ∧ Hid (RowB 5 w2.heap.size wr (.slice (some ⟨g3, 0, none⟩) 4 c3) FS) ∧ Hid (v.ownBlock ≠ some g3) ∧ Below w.heap.size w wr) (fun _ vk _ => 4 - (intOf vk).toNat)
      case atStart => exact ⟨0, rfl, by omega, R3, S3, (by intro e; have := UB.out _ e; have := S3.out.block_ge (g := g3) rfl; omega), B3⟩
      case round =>
        clear R3 S3 B3 hnx
        obtain ⟨k, rfl, hk, hown, hsr, hne, hnx⟩ := hrel
        have hsz := hnx.size
        by_cases hlt : (k : Int) < 4
        · have lt := HSL.out k
          have l1 : ((FL ++ p ++ FS.take k).map bv).length + 1 ≤ maxLen := by have := HPL.out; rw [List.length_map, List.length_append]; unfold maxLen; omega
          have l2 : (((FL ++ p ++ FS.take k).map bv).length + 1) * 1 ≤ 140737488355328 := by have := HPL.out; rw [List.length_map, List.length_append]; omega
          clear lt
          have c2 := S3R.out k wr (by omega) hsr.out
          have CT : Hid (FL ++ p ++ FS.take (k + 1) = FL ++ p ++ FS.take k ++ [FS.getD k 0]) := by show _ = _; rw [HST.out k (by omega), List.append_assoc (FL ++ p)]
          have hown0 := hown.out
          generalize FS.getD k 0 = x at *
          go_wp2_with (at_builtin; refine wpList_pushN rfl (.tmp 35) (.tmp 40) 22 rfl 5 i0 (.int .u8 0) 1 underB hi hz0 hz1 hz2 rfl w.heap.size _ _ _ rfl rfl hown0 hsz rfl l1 l2 ?_; intro v' w4 hown' hgr hnr)
          have hb : Below w.heap.size w w4 := below_grown hnx hown0 (Nat.le_refl _) hsz hgr
          have HR2 : Hid (RowB 5 w.heap.size w4 v' (FL ++ p ++ FS.take (k + 1))) := by show RowV _ _ _ _ _; rw [CT.out]; exact rowB_push hown' rfl
          have HS2 : Hid (RowB 5 w2.heap.size w4 (.slice (some ⟨g3, 0, none⟩) 4 c3) FS) := RowV.kept hsr.out hgr (fun g hg e => by
            have eg : g3 = g := by simpa [Value.ownBlock] using hg
            subst eg
            exact hne.out e)
          have HN2 : Hid (v'.ownBlock ≠ some g3) := fun e => by
            rcases hnr g3 e with h1 | h1
            · exact hne.out h1
            · have := hsr.out.block_lt (g := g3) rfl; omega
          clear hown' hown0 hgr hown hsr hne hnr
          go_roundw
          case rel => exact ⟨k + 1, by go_num, by omega, HR2, HS2, HN2, hb⟩
          case measure => simp [intOf]; omega
        · obtain rfl : k = 4 := by omega
          have HO2 := hown.out
          rw [HFT.out, ← HE.out] at HO2
          obtain ⟨a, c, e, _⟩ := (RowV.rd HO2).len
          rw [List.length_map] at e
          subst e
          have HR' : Hid (NewT w (CrcM.enc p) (.returned (.tuple #[.slice a (CrcM.enc p).length c, .bool true])) wr) := ⟨a, c, rfl, HO2, hnx⟩
          clear HO2 hown hsr hne
          go_wp2_with fail
          go_ret2
          exact HR'.out

set_option maxHeartbeats 1000000 in
theorem rjoin_at (cs : List (List Nat)) (v : Value) (w : World) (hs : Sml cs) (hz : CrcM.sizeL cs ≤ 1000000000) (h : RdR w v cs) : Calls Tryd.prog 15 #[v] w (NewT w (CrcM.join cs)) := by
  obtain ⟨i0, hi, hz0, hz1, hz2⟩ := info_parts infoB
  obtain ⟨ao, cap, rfl, hcap⟩ := h.len
  have HH : Hid (∀ i w', i < cs.length → Below w.heap.size w w' → ∃ g o a' c', ao = some ⟨g, o, none⟩ ∧ w'.cell? ⟨g, o + i, none⟩ = some (.slice a' (cs.getD i []).length c') ∧ Calls Tryd.prog 25 #[.slice a' (cs.getD i []).length c'] w' (NewT w' (CrcM.enc (cs.getD i [])))) := fun i w' hi hb => by
    obtain ⟨g, o, a', c', h1, h2, h3⟩ := (h.later hb).at.2.2 i hi
    exact ⟨g, o, a', c', h1, h2, rencode_at _ _ w' (hs.bytD i) (by have := hs.lenD i; omega) h3⟩
  have HN : Hid (∀ i, i < cs.length → CrcM.join (cs.take (i + 1)) = CrcM.join (cs.take i) ++ CrcM.enc (cs.getD i [])) := fun i hi => by rw [take_next cs i hi, join_snoc]
  have HF : Hid (CrcM.join (cs.take cs.length) = CrcM.join cs) := by show _ = _; rw [List.take_of_length_le (Nat.le_refl _)]
  have Z0 : Hid (CrcM.join (cs.take 0) = []) := by show _ = _; rw [List.take_zero]; exact join_nil
  have HB : Hid (∀ k, (CrcM.join (cs.take k)).length ≤ 1000000000) := fun k => by have := sizeL_take_le cs k; unfold CrcM.sizeL at this hz; omega
  have hc := hs.cnt
  clear h hs hz
  obtain ⟨L, hL⟩ : ∃ L, cs.length = L := ⟨_, rfl⟩
  rw [hL] at HH HN HF hc hcap ⊢
  clear hL
  go_enter Tryd.func15, Tryd.ntmps15
  go_wp2_with fail
  go_loopw [4, 5] (fun v vk wr => ∃ k : Nat, vk = .int .i64 (k : Int) ∧ k ≤ L ∧ Hid (RowB 5 w.heap.size wr v (CrcM.join (cs.take k))) ∧ Below w.heap.size w wr) (fun _ vk _ => L - (intOf vk).toNat)
  case atStart => exact ⟨0, rfl, by omega, by show RowV _ _ _ _ _; rw [Z0.out]; exact RowV.nil _ _ _, Below.refl _ _⟩
  case round =>
    obtain ⟨k, rfl, hk, hrow, hnx⟩ := hrel
    have hsz := hnx.size
    by_cases hlt : (k : Int) < (L : Int)
    · obtain ⟨g, o, a1, c1, rfl, d1, EN⟩ := HH.out k wr (by omega) hnx
      have EN' : Hid (Calls Tryd.prog 25 #[.slice a1 (cs.getD k []).length c1] wr (NewT wr (CrcM.enc (cs.getD k [])))) := EN
      have HN' : Hid (CrcM.join (cs.take (k + 1)) = CrcM.join (cs.take k) ++ CrcM.enc (cs.getD k [])) := HN.out k (by omega)
      have h1 := HB.out k
      have h2 := HB.out (k + 1)
      rw [HN'.out, List.length_append] at h2
      clear EN
      generalize CrcM.join (cs.take k) = J at *
      generalize CrcM.enc (cs.getD k []) = E at *
      generalize (cs.getD k []).length = X at *
      go_wp2_with fail
      refine EN'.out.mono ?_
      rintro e w1 ⟨a2, c2, rfl, r1, b1⟩
      have B1 : Below w.heap.size w w1 := below_trans hnx b1
      have hs1 := B1.size
      have own1 : RowB 5 w.heap.size w1 u4 J := RowV.later hrow.out b1
      have rd1 : Rd w1 (.slice a2 E.length c2) (E.map bv) := RowV.rd r1
      have l1 : (J.map bv).length + (E.map bv).length ≤ maxLen := by rw [List.length_map, List.length_map]; unfold maxLen; omega
      have l2 : ((J.map bv).length + (E.map bv).length) * 1 ≤ 140737488355328 := by rw [List.length_map, List.length_map]; omega
      have one := one_bv E
      have HU : Hid (J.map bv ++ E.map bv = (J ++ E).map bv) := (List.map_append ..).symm
      clear r1 b1 EN' hrow
      go_wp2_with (at_builtin; refine wpList_catV rfl (.tmp 24) (.tmp 25) 22 rfl 5 i0 (.int .u8 0) 1 underB hi hz0 hz1 hz2 rfl w.heap.size _ _ _ _ one rfl own1 hs1 rfl rd1 l1 l2 ?_; intro v' w2 hown' hgr)
      have B2 : Below w.heap.size w w2 := below_grown B1 own1 (Nat.le_refl _) hs1 hgr
      have HR2 : Hid (RowB 5 w.heap.size w2 v' (CrcM.join (cs.take (k + 1)))) := by show RowV _ _ _ _ _; rw [HN'.out, ← HU.out]; exact hown'
      clear hown' hgr own1 rd1 one l1 l2
      go_roundw
      case rel => exact ⟨k + 1, by go_num, by omega, HR2, B2⟩
      case measure => simp [intOf]; omega
    · obtain rfl : k = L := by omega
      have HR := hrow.out
      rw [HF.out] at HR
      obtain ⟨a, c, e, _⟩ := (RowV.rd HR).len
      rw [List.length_map] at e
      subst e
      have HR' : Hid (NewT w (CrcM.join cs) (.returned (.tuple #[.slice a (CrcM.join cs).length c, .bool true])) wr) := ⟨a, c, rfl, HR, hnx⟩
      clear HR hrow
      go_wp2_with fail
      go_ret2
      exact HR'.out
end Go.Proofs.YtbalmfghihgmgadDoor
