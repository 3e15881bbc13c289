/-
  Ours: frame.Join.
-/
import Derived.Test.YtbalmfghihgmgacDoorFrmLaw3
namespace Go.Proofs.YtbalmfghihgmgacDoor
open Go.RowKit

set_option maxHeartbeats 1000000 in
theorem join_at (cs : List (List Nat)) (v : Value) (w : World) (hs : Sml cs) (hz : CrcM.sizeL cs ≤ 1000000000) (h : RdR w v cs) (hT : TabS w) : Calls Tryd.prog 18 #[v] w (NewT w (CrcM.join cs)) := by
  obtain ⟨i0, hi, hz0, hz1, hz2⟩ := info_parts infoB
  obtain ⟨ao, cap, rfl, hcap⟩ := h.len
  have HH : Hid (∀ i w', i < cs.length → Below w.heap.size w w' → ∃ g o a' c', ao = some ⟨g, o, none⟩ ∧ w'.cell? ⟨g, o + i, none⟩ = some (.slice a' (cs.getD i []).length c') ∧ Calls Tryd.prog 9 #[.slice a' (cs.getD i []).length c'] w' (NewT w' (CrcM.enc (cs.getD i [])))) := fun i w' hi hb => by
    obtain ⟨g, o, a', c', h1, h2, h3⟩ := (h.later hb).at.2.2 i hi
    exact ⟨g, o, a', c', h1, h2, encode_at _ _ w' (hs.bytD i) (by have := hs.lenD i; omega) h3 (hT.below hb)⟩
  have HN : Hid (∀ i, i < cs.length → CrcM.join (cs.take (i + 1)) = CrcM.join (cs.take i) ++ CrcM.enc (cs.getD i [])) := fun i hi => by rw [take_next cs i hi, join_snoc]
  have HF : Hid (CrcM.join (cs.take cs.length) = CrcM.join cs) := by show _ = _; rw [List.take_of_length_le (Nat.le_refl _)]
  have Z0 : Hid (CrcM.join (cs.take 0) = []) := by show _ = _; rw [List.take_zero]; exact join_nil
  have HB : Hid (∀ k, (CrcM.join (cs.take k)).length ≤ 1000000000) := fun k => by have := sizeL_take_le cs k; unfold CrcM.sizeL at this hz; omega
  have hc := hs.cnt
  clear h hs hT hz
  obtain ⟨L, hL⟩ : ∃ L, cs.length = L := ⟨_, rfl⟩
  rw [hL] at HH HN HF hc hcap ⊢
  clear hL
  go_enter Tryd.func18, Tryd.ntmps18
  go_wp2_with fail
  go_loopw [4, 11] (fun v vk wr => ∃ k : Nat, vk = .int .i64 (k : Int) ∧ k ≤ L ∧ Hid (RowB 5 w.heap.size wr v (CrcM.join (cs.take k))) ∧ Below w.heap.size w wr) (fun _ vk _ => L - (intOf vk).toNat)
  case atStart => exact ⟨0, rfl, by omega, by show RowV _ _ _ _ _; rw [Z0.out]; exact RowV.nil _ _ _, Below.refl _ _⟩
  case round =>
    obtain ⟨k, rfl, hk, hrow, hnx⟩ := hrel
    have hsz := hnx.size
    by_cases hlt : (k : Int) < (L : Int)
    · obtain ⟨g, o, a1, c1, rfl, d1, EN⟩ := HH.out k wr (by omega) hnx
      have EN' : Hid (Calls Tryd.prog 9 #[.slice a1 (cs.getD k []).length c1] wr (NewT wr (CrcM.enc (cs.getD k [])))) := EN
      have HN' : Hid (CrcM.join (cs.take (k + 1)) = CrcM.join (cs.take k) ++ CrcM.enc (cs.getD k [])) := HN.out k (by omega)
      have h1 := HB.out k
      have h2 := HB.out (k + 1)
      rw [HN'.out, List.length_append] at h2
      clear EN
      generalize CrcM.join (cs.take k) = J at *
      generalize CrcM.enc (cs.getD k []) = E at *
      generalize (cs.getD k []).length = X at *
      go_wp2_with fail
      refine EN'.out.mono ?_
      rintro e w1 ⟨a2, c2, rfl, r1, b1⟩
      have B1 : Below w.heap.size w w1 := below_trans hnx b1
      have hs1 := B1.size
      have own1 : RowB 5 w.heap.size w1 u4 J := RowV.later hrow.out b1
      have rd1 : Rd w1 (.slice a2 E.length c2) (E.map bv) := RowV.rd r1
      have l1 : (J.map bv).length + (E.map bv).length ≤ maxLen := by rw [List.length_map, List.length_map]; unfold maxLen; omega
      have l2 : ((J.map bv).length + (E.map bv).length) * 1 ≤ 140737488355328 := by rw [List.length_map, List.length_map]; omega
      have one := one_bv E
      have HU : Hid (J.map bv ++ E.map bv = (J ++ E).map bv) := (List.map_append ..).symm
      clear r1 b1 EN' hrow
      go_wp2_with (at_builtin; refine wpList_catV rfl (.tmp 22) (.tmp 23) 22 rfl 5 i0 (.int .u8 0) 1 underB hi hz0 hz1 hz2 rfl w.heap.size _ _ _ _ one rfl own1 hs1 rfl rd1 l1 l2 ?_; intro v' w2 hown' hgr)
      have B2 : Below w.heap.size w w2 := below_grown B1 own1 (Nat.le_refl _) hs1 hgr
      have HR2 : Hid (RowB 5 w.heap.size w2 v' (CrcM.join (cs.take (k + 1)))) := by show RowV _ _ _ _ _; rw [HN'.out, ← HU.out]; exact hown'
      clear hown' hgr own1 rd1 one l1 l2
      go_roundw
      case rel => exact ⟨k + 1, by go_num, by omega, HR2, B2⟩
      case measure => simp [intOf]; omega
    · obtain rfl : k = L := by omega
      have HR := hrow.out
      rw [HF.out] at HR
      obtain ⟨a, c, e, _⟩ := (RowV.rd HR).len
      rw [List.length_map] at e
      subst e
      have HR' : Hid (NewT w (CrcM.join cs) (.returned (.tuple #[.slice a (CrcM.join cs).length c, .bool true])) wr) := ⟨a, c, rfl, HR, hnx⟩
      clear HR hrow
      go_wp2_with fail
      go_ret2
      exact HR'.out
end Go.Proofs.YtbalmfghihgmgacDoor
