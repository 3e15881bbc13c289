/-
  Ours: LockboxLuhn, walked.
-/
import Derived.Test.YtkikpdgpggbakaaDoorLbLuM
import Derived.BigQuiet
import Derived.Deep.CutRange
namespace Go.Proofs.YtkikpdgpggbakaaDoor
open Go.RowKit LbM
set_option maxRecDepth 40000 in
set_option maxHeartbeats 8000000 in
theorem luhn_in (N : Nat) (hN : N ≤ 999999) (i d : Int) (hi : -9223372036854775808 ≤ i ∧ i ≤ 9223372036854775807) (hd : -9223372036854775808 ≤ d ∧ d ≤ 9223372036854775807) (w : World) (ht : TabP w) :
    Calls Tryd.prog 3 #[.int .i64 (N : Int), .int .i64 i, .int .i64 d] w fun e w' => e = .returned (.bool true) ∧ Below w.heap.size w w' := by
  obtain ⟨i0, hi0, hz0, hz1, hz2⟩ := info_parts infoB
  have CN : Hid (Calls Tryd.prog 5 #[.int .i64 (N : Int)] w fun e w' => e = .returned (.tuple #[.int .i64 ((cd6 N : Nat) : Int), .bool true]) ∧ Below w.heap.size w w') := checkNum_at N hN w ht
  have hc9 := cd6_le N
  obtain ⟨c, hc⟩ : ∃ c, cd6 N = c := ⟨_, rfl⟩
  have HC : Hid (cd6 N = c) := hc
  rw [hc] at CN hc9
  clear hc ht
  have h1 : ¬ ((N : Int) < 0) := by omega
  have h2 : ¬ (999999 < (N : Int)) := by omega
  have h3 : ¬ ((c : Int) < 0) := by omega
  have h4 : ¬ (9 < (c : Int)) := by omega
  go_enter Tryd.func3, Tryd.ntmps3
  go_wp2_with fail
  refine CN.out.mono ?_
  rintro e w2 ⟨rfl, b2⟩
  have B2 : Hid (Below w.heap.size w w2) := b2
  clear CN b2
  go_wp2_with fail
  go_loopw [9, 10] (fun vb vi wr => ∃ (k : Nat) (a : Option Addr) (n cc : Nat), k ≤ 6 ∧ vi = .int .i64 ((pl k : Nat) : Int) ∧ vb = .slice a n cc ∧ Hid (RowB 5 w2.heap.size wr (.slice a n cc) ((dg6 N).take k) ∧ Below w2.heap.size w2 wr)) (fun _ vi _ => (intOf vi).toNat)
  case atStart => exact ⟨0, none, 0, 0, by omega, rfl, rfl, ⟨RowV.nil _ _ _, Below.refl _ _⟩⟩
  case round =>
    obtain ⟨k, a, n, cc, hk, rfl, rfl, HR⟩ := hrel
    by_cases hk6 : k = 6
    · subst hk6
      have own1 := HR.out.1
      have hsz1 := HR.out.2.size
      have l1 : (((dg6 N).take 6).map bv).length + 1 ≤ maxLen := by show 6 + 1 ≤ maxLen; decide
      have l2 : ((((dg6 N).take 6).map bv).length + 1) * 1 ≤ 140737488355328 := by show (6 + 1) * 1 ≤ _; decide
      show Code.wp _ _ _ _ _
      unfold pl
      go_wp2_with (at_builtin; refine wpList_pushV rfl (.tmp 55) (.tmp 59) 24 rfl 5 i0 (.int .u8 0) 1 underB hi0 hz0 hz1 hz2 rfl w2.heap.size _ _ _ rfl rfl own1 hsz1 rfl l1 l2 ?_; intro v3 w3 r3 g3)
      have R3 : Hid (RowB 5 w2.heap.size w3 v3 (dg7 N) ∧ Below w2.heap.size w2 w3) := ⟨by unfold dg7; rw [HC.out]; exact rowB_push r3 (by omega), below_grown HR.out.2 own1 (Nat.le_refl _) hsz1 g3⟩
      obtain ⟨g, cap, rfl, hcap, hgb, hgl, HX, hfz⟩ := RowB.own R3.out.1 (by rw [dg7_len]; decide)
      rw [dg7_len] at hcap HX
      have B3 : Hid (Below w.heap.size w w3) := below_trans B2.out R3.out.2
      have TX : Hid (Calls Tryd.prog 7 #[.slice (some ⟨g, 0, none⟩) 7 cap] w3 fun e w' => e = .returned (.string ⟨(tx (dg7 N)).toArray⟩) ∧ w3 = w') := text_at (dg7 N) _ w3 (RowV.rd R3.out.1) (fun x hx => by
        obtain ⟨j, hj, rfl⟩ := List.mem_iff_getElem.1 hx
        have := dg7_at N j hj
        rw [List.getD_eq_getElem?_getD, List.getElem?_eq_getElem hj] at this
        exact Nat.lt_of_le_of_lt this.2 (by omega))
      have VL : Hid (Calls Tryd.prog 6 #[.string ⟨(tx (dg7 N)).toArray⟩] w3 fun e w' => e = .returned (.bool true) ∧ w3 = w') := by
        have := valid_at (tx (dg7 N)) w3 (by rw [tx, List.length_map, dg7_len]; decide)
        rw [luhn_ok] at this
        exact this
      generalize tx (dg7 N) = T0 at *
      clear r3 g3 own1 hsz1 l1 l2 HR
      rw [dg7_len]
      go_wp2_with fail
      refine TX.out.mono ?_
      rintro e w4 ⟨rfl, rfl⟩
      go_wp2_with fail
      refine VL.out.mono ?_
      rintro e w4 ⟨rfl, rfl⟩
      clear TX VL
      by_cases q1 : i < 0
      · go_wp2_with fail
        go_ret
        exact ⟨rfl, B3.out⟩
      · by_cases q2 : (7 : Int) ≤ i
        · go_wp2_with fail
          go_ret
          exact ⟨rfl, B3.out⟩
        · by_cases q3 : d < 0
          · go_wp2_with fail
            go_ret
            exact ⟨rfl, B3.out⟩
          · by_cases q4 : 9 < d
            · go_wp2_with fail
              go_ret
              exact ⟨rfl, B3.out⟩
            · obtain ⟨I, rfl⟩ : ∃ I : Nat, i = (I : Int) := ⟨i.toNat, by omega⟩
              obtain ⟨D, rfl⟩ : ∃ D : Nat, d = (D : Int) := ⟨d.toNat, by omega⟩
              have hI7 : I < 7 := by omega
              have hD9 : D ≤ 9 := by omega
              have D8 : Hid (∀ z ∈ dg7 N, z < 256) := fun z hz => by
                obtain ⟨j, hj, rfl⟩ := List.mem_iff_getElem.1 hz
                have := dg7_at N j hj
                rw [List.getD_eq_getElem?_getD, List.getElem?_eq_getElem hj] at this
                exact Nat.lt_of_le_of_lt this.2 (by omega)
              have GW : Hid (w.heap.size ≤ g) := Nat.le_trans B2.out.size hgb
              by_cases q6 : (I : Int) + 1 < 7
              · by_cases qx : (dg7 N).getD I 0 = (dg7 N).getD (I + 1) 0
                · have cI := HX I hI7
                  have cJ := HX (I + 1) (by omega)
                  rw [← qx] at cJ
                  have HXX : Hid (∀ j, j < 7 → w3.cell? ⟨g, j, none⟩ = some (.int .u8 (((dg7 N).getD j 0 : Nat) : Int))) := HX
                  have FZ : Hid (∀ j, w3.frozen? ⟨g, j, none⟩ = false) := hfz
                  have RW : Hid (RowB 5 w2.heap.size w3 (.slice (some ⟨g, 0, none⟩) 7 cap) (dg7 N) ∧ True) := ⟨R3.out.1, trivial⟩
                  have BW := B3
                  clear HX hfz qx
                  obtain ⟨z, hz⟩ : ∃ z, (dg7 N).getD I 0 = z := ⟨_, rfl⟩
                  rw [hz] at cI cJ
                  have qb : ((z : Int) != (z : Int)) = false := by simp
                  clear hz
                  go_wp2_with fail
                  go_quiet (fail)
                  clear qb cI cJ
                  have HXX : Hid (∀ j, j < 7 → (w3.drewN nq).cell? ⟨g, j, none⟩ = some (.int .u8 (((dg7 N).getD j 0 : Nat) : Int))) := HXX.out
                  have FZ : Hid (∀ j, (w3.drewN nq).frozen? ⟨g, j, none⟩ = false) := FZ.out
                  have RW : Hid (RowB 5 w2.heap.size (w3.drewN nq) (.slice (some ⟨g, 0, none⟩) 7 cap) (dg7 N) ∧ True) := ⟨RW.out.1, trivial⟩
                  have BW : Hid (Below w.heap.size w (w3.drewN nq)) := below_drewN BW.out nq
                  generalize w3.drewN nq = W at *
                  clear R3 B3
                  have cI := HXX.out I hI7
                  have fI := FZ.out I
                  have VT : Hid (vld (tx ((dg7 N).set I (48 + D))) = decide ((dg7 N).getD I 0 = 48 + D)) := luhn_one N I D hI7 hD9
                  have PT := RowB.put RW.out.1 I (48 + D) (dg7_len N)
                  have hlen : ((dg7 N).set I (48 + D)).length = 7 := by rw [List.length_set]; rfl
                  have h8 : ∀ z ∈ (dg7 N).set I (48 + D), z < 256 := fun z hz => by
                    rcases List.mem_or_eq_of_mem_set hz with hz | hz
                    · exact D8.out z hz
                    · omega
                  have TX : Hid (Calls Tryd.prog 7 #[.slice (some ⟨g, 0, none⟩) 7 cap] (W.setCell ⟨g, I, none⟩ (.int .u8 (48 + (D : Int)))) fun e w' => e = .returned (.string ⟨(tx ((dg7 N).set I (48 + D))).toArray⟩) ∧ (W.setCell ⟨g, I, none⟩ (.int .u8 (48 + (D : Int)))) = w') := text_at _ _ _ (RowV.rd (by rw [show (48 + (D : Int)) = ((48 + D : Nat) : Int) by omega]; exact PT.1)) h8
                  have VL : Hid (Calls Tryd.prog 6 #[.string ⟨(tx ((dg7 N).set I (48 + D))).toArray⟩] (W.setCell ⟨g, I, none⟩ (.int .u8 (48 + (D : Int)))) fun e w' => e = .returned (.bool (vld (tx ((dg7 N).set I (48 + D))))) ∧ (W.setCell ⟨g, I, none⟩ (.int .u8 (48 + (D : Int)))) = w') := valid_at _ _ (by rw [tx, List.length_map, hlen]; decide)
                  have BE : Hid (Below w.heap.size w (W.setCell ⟨g, I, none⟩ (.int .u8 (48 + (D : Int))))) := below_own BW.out GW.out
                  generalize vld (tx ((dg7 N).set I (48 + D))) = vv at *
                  generalize tx ((dg7 N).set I (48 + D)) = T1 at *
                  generalize (dg7 N).getD I 0 = x at *
                  clear PT h8 hlen
                  by_cases qe : (x : Int) = 48 + (D : Int)
                  · have hv : vv = true := by rw [VT.out]; exact decide_eq_true (by omega)
                    subst hv
                    have qb : ((x : Int) == 48 + (D : Int)) = true := by simp [qe]
                    clear qe VT
                    go_wp2_with fail
                    refine TX.out.mono ?_
                    rintro e w8 ⟨rfl, rfl⟩
                    go_wp2_with fail
                    refine VL.out.mono ?_
                    rintro e w8 ⟨rfl, rfl⟩
                    go_wp2_with fail
                    go_ret
                    exact ⟨rfl, BE.out⟩
                  · have hv : vv = false := by rw [VT.out]; exact decide_eq_false (fun e => qe (by omega))
                    subst hv
                    have qb : ((x : Int) == 48 + (D : Int)) = false := by simp [qe]
                    clear qe VT
                    go_wp2_with fail
                    refine TX.out.mono ?_
                    rintro e w8 ⟨rfl, rfl⟩
                    go_wp2_with fail
                    refine VL.out.mono ?_
                    rintro e w8 ⟨rfl, rfl⟩
                    go_wp2_with fail
                    go_ret
                    exact ⟨rfl, BE.out⟩
                · obtain ⟨x, hx⟩ : ∃ x, (dg7 N).getD I 0 = x := ⟨_, rfl⟩
                  obtain ⟨y, hy⟩ : ∃ y, (dg7 N).getD (I + 1) 0 = y := ⟨_, rfl⟩
                  have hxb := dg7_at N I hI7
                  have hyb := dg7_at N (I + 1) (by omega)
                  have cI := HX I hI7
                  have cJ := HX (I + 1) (by omega)
                  have LT := luhn_two N I (by omega) qx
                  rw [hx, hy] at LT qx
                  rw [hx] at cI hxb
                  rw [hy] at cJ hyb
                  have hx48 := hxb.1
                  have hx57 := hxb.2
                  have hy48 := hyb.1
                  have hy57 := hyb.2
                  have LTW : Hid (vld (tx (((dg7 N).set I y).set (I + 1) x)) = decide (x - 48 + (y - 48) = 9 ∧ (x = 48 ∨ x = 57))) := LT
                  have HXY : Hid ((dg7 N).getD I 0 = x ∧ (dg7 N).getD (I + 1) 0 = y) := ⟨hx, hy⟩
                  have HXX : Hid (∀ j, j < 7 → w3.cell? ⟨g, j, none⟩ = some (.int .u8 (((dg7 N).getD j 0 : Nat) : Int))) := HX
                  have FZ : Hid (∀ j, w3.frozen? ⟨g, j, none⟩ = false) := hfz
                  have qb : ((x : Int) != (y : Int)) = true := by rw [bne_iff_ne]; omega
                  clear HX hfz LT hx hy hxb hyb qx
                  go_wp2_with fail
                  go_quiet (fail)
                  clear qb
                  have R4 : Hid (RowB 5 w2.heap.size (w3.drewN nq) (.slice (some ⟨g, 0, none⟩) 7 cap) (dg7 N)) := R3.out.1
                  have B4 : Hid (Below w.heap.size w (w3.drewN nq)) := below_drewN B3.out nq
                  have g4 : Hid (g < (w3.drewN nq).heap.size) := hgl
                  generalize w3.drewN nq = w4 at *
                  clear R3 B3 cI cJ HXX FZ hgl
                  have CB : Hid (Calls Tryd.prog 8 #[.slice (some ⟨g, 0, none⟩) 7 cap] w4 (NewS w4 (dg7 N))) := copyBytes_at (dg7 N) _ w4 (by rw [dg7_len]; decide) (RowV.rd R4.out)
                  go_wp2_with fail
                  refine CB.out.mono ?_
                  rintro e w5 ⟨a5, n5, c5, rfl, r5, b5⟩
                  obtain ⟨g5, cap5, e5, hcap5, hgb5, hgl5, HX5, hfz5⟩ := RowB.own r5 (by rw [dg7_len]; decide)
                  rw [dg7_len] at e5 hcap5 HX5
                  injection e5 with e51 e52 e53
                  subst e51 e52 e53
                  have hne : g ≠ g5 := by have := g4.out; omega
                  have R5 : Hid (RowB 5 w2.heap.size w5 (.slice (some ⟨g, 0, none⟩) 7 cap) (dg7 N)) := RowV.later R4.out b5
                  have B5 : Hid (Below w.heap.size w w5) := below_trans B4.out b5
                  obtain ⟨P1, G1⟩ := RowB.put r5 I y (dg7_len N)
                  obtain ⟨P2, G2⟩ := RowB.put P1 (I + 1) x (by rw [List.length_set]; rfl)
                  have e6 : (((I + 1 : Nat) : Int)) = (I : Int) + 1 := by omega
                  have nn : ∀ q, (Value.slice (some ⟨g, 0, none⟩) 7 cap).ownBlock = some q → some g5 ≠ some q := fun q e => by
                    have : g = q := by simpa [Value.ownBlock] using e
                    intro z; injection z with z; omega
                  have R6 : Hid (RowB 5 w2.heap.size ((w5.setCell ⟨g5, I, none⟩ (.int .u8 ((y : Nat) : Int))).setCell ⟨g5, I + 1, none⟩ (.int .u8 ((x : Nat) : Int))) (.slice (some ⟨g, 0, none⟩) 7 cap) (dg7 N)) := RowV.kept (RowV.kept R5.out G1 nn) G2 nn
                  have B6 : Hid (Below w.heap.size w ((w5.setCell ⟨g5, I, none⟩ (.int .u8 ((y : Nat) : Int))).setCell ⟨g5, I + 1, none⟩ (.int .u8 ((x : Nat) : Int)))) := below_own (below_own B5.out (by have := B4.out.size; omega)) (by have := B4.out.size; omega)
                  have L6 : Hid (RowB 5 w4.heap.size ((w5.setCell ⟨g5, I, none⟩ (.int .u8 ((y : Nat) : Int))).setCell ⟨g5, I + 1, none⟩ (.int .u8 ((x : Nat) : Int))) (.slice (some ⟨g5, 0, none⟩) 7 c5) (((dg7 N).set I y).set (I + 1) x)) := P2
                  obtain ⟨gA, capA, eA, -, -, -, HXA, -⟩ := RowB.own R5.out (by rw [dg7_len]; decide)
                  injection eA with eA1 eA2 eA3
                  injection eA1 with eA1
                  injection eA1 with eA1 _
                  subst eA1
                  clear eA2 eA3
                  rw [dg7_len] at HXA
                  have cI := HXA I hI7
                  have cJ := HXA (I + 1) (by omega)
                  rw [HXY.out.1] at cI
                  rw [HXY.out.2] at cJ
                  have dI := HX5 I hI7
                  have dJ := HX5 (I + 1) (by omega)
                  have fI := hfz5 I
                  have fJ := hfz5 (I + 1)
                  have hne2 : g5 ≠ g := fun e => hne e.symm
                  clear r5 b5 P1 P2 G1 G2 HXA HX5 hfz5 nn CB R4 B4 R5 B5 hgb5
                  go_upto_region 20 with fail
                  clear cI cJ dI dJ fI fJ
                  generalize (w5.setCell ⟨g5, I, none⟩ (.int .u8 ((y : Nat) : Int))).setCell ⟨g5, I + 1, none⟩ (.int .u8 ((x : Nat) : Int)) = w6 at *
                  obtain ⟨gA, capA, eA, -, -, -, HXA, hfA⟩ := RowB.own R6.out (by rw [dg7_len]; decide)
                  injection eA with eA1 eA2 eA3
                  injection eA1 with eA1
                  injection eA1 with eA1 _
                  subst eA1
                  clear eA2 eA3
                  rw [dg7_len] at HXA
                  have cI := HXA I hI7
                  have cJ := HXA (I + 1) (by omega)
                  rw [HXY.out.1] at cI
                  rw [HXY.out.2] at cJ
                  have HXX : Hid (∀ j, j < 7 → w6.cell? ⟨g, j, none⟩ = some (.int .u8 (((dg7 N).getD j 0 : Nat) : Int))) := HXA
                  have FZ : Hid (∀ j, w6.frozen? ⟨g, j, none⟩ = false) := hfA
                  clear HXA hfA
                  go_quiet (fail)
                  have cI : (w6.drewN nq).cell? ⟨g, I, none⟩ = some (.int .u8 ((x : Nat) : Int)) := cI
                  have HXX : Hid (∀ j, j < 7 → (w6.drewN nq).cell? ⟨g, j, none⟩ = some (.int .u8 (((dg7 N).getD j 0 : Nat) : Int))) := HXX.out
                  have FZ : Hid (∀ j, (w6.drewN nq).frozen? ⟨g, j, none⟩ = false) := FZ.out
                  have RW : Hid (RowB 5 w2.heap.size (w6.drewN nq) (.slice (some ⟨g, 0, none⟩) 7 cap) (dg7 N) ∧ True) := ⟨R6.out, trivial⟩
                  have LW : Hid (RowB 5 w4.heap.size (w6.drewN nq) (.slice (some ⟨g5, 0, none⟩) 7 c5) (((dg7 N).set I y).set (I + 1) x)) := L6.out
                  have BW : Hid (Below w.heap.size w (w6.drewN nq)) := below_drewN B6.out nq
                  generalize w6.drewN nq = W at *
                  clear R6 L6 B6 cJ
                  have hlen2 : (((dg7 N).set I y).set (I + 1) x).length = 7 := by rw [List.length_set, List.length_set]; rfl
                  have h82 : ∀ z ∈ ((dg7 N).set I y).set (I + 1) x, z < 256 := fun z hz => by
                    rcases List.mem_or_eq_of_mem_set hz with hz | hz
                    · rcases List.mem_or_eq_of_mem_set hz with hz | hz
                      · exact D8.out z hz
                      · omega
                    · omega
                  have TX2 : Hid (Calls Tryd.prog 7 #[.slice (some ⟨g5, 0, none⟩) 7 c5] W fun e w' => e = .returned (.string ⟨(tx (((dg7 N).set I y).set (I + 1) x)).toArray⟩) ∧ W = w') := text_at _ _ _ (RowV.rd LW.out) h82
                  have VL2 : Hid (Calls Tryd.prog 6 #[.string ⟨(tx (((dg7 N).set I y).set (I + 1) x)).toArray⟩] W fun e w' => e = .returned (.bool (vld (tx (((dg7 N).set I y).set (I + 1) x)))) ∧ W = w') := valid_at _ _ (by rw [tx, List.length_map, hlen2]; decide)
                  generalize vld (tx (((dg7 N).set I y).set (I + 1) x)) = v2 at *
                  generalize tx (((dg7 N).set I y).set (I + 1) x) = T2 at *
                  clear hlen2 h82 LW
                  by_cases p1 : (x : Int) - 48 + ((y : Int) - 48) = 9
                  · have e1 : ((x : Int) - 48 + ((y : Int) - 48) == 9) = true := by simp [p1]
                    by_cases p2 : (x : Int) = 48
                    · have e2 : ((x : Int) == 48) = true := by simp [p2]
                      have hv2 : v2 = true := by rw [LTW.out]; exact decide_eq_true (by omega)
                      subst hv2
                      clear LTW p1 p2
                      go_wp2_with fail
                      refine TX2.out.mono ?_
                      rintro e w8 ⟨rfl, rfl⟩
                      go_wp2_with fail
                      refine VL2.out.mono ?_
                      rintro e w8 ⟨rfl, rfl⟩
                      clear TX2 VL2 cI
                      have cI := HXX.out I hI7
                      have fI := FZ.out I
                      have VT : Hid (vld (tx ((dg7 N).set I (48 + D))) = decide ((dg7 N).getD I 0 = 48 + D)) := luhn_one N I D hI7 hD9
                      have PT := RowB.put RW.out.1 I (48 + D) (dg7_len N)
                      have hlen : ((dg7 N).set I (48 + D)).length = 7 := by rw [List.length_set]; rfl
                      have h8 : ∀ z ∈ (dg7 N).set I (48 + D), z < 256 := fun z hz => by
                        rcases List.mem_or_eq_of_mem_set hz with hz | hz
                        · exact D8.out z hz
                        · omega
                      have TX : Hid (Calls Tryd.prog 7 #[.slice (some ⟨g, 0, none⟩) 7 cap] (W.setCell ⟨g, I, none⟩ (.int .u8 (48 + (D : Int)))) fun e w' => e = .returned (.string ⟨(tx ((dg7 N).set I (48 + D))).toArray⟩) ∧ (W.setCell ⟨g, I, none⟩ (.int .u8 (48 + (D : Int)))) = w') := text_at _ _ _ (RowV.rd (by rw [show (48 + (D : Int)) = ((48 + D : Nat) : Int) by omega]; exact PT.1)) h8
                      have VL : Hid (Calls Tryd.prog 6 #[.string ⟨(tx ((dg7 N).set I (48 + D))).toArray⟩] (W.setCell ⟨g, I, none⟩ (.int .u8 (48 + (D : Int)))) fun e w' => e = .returned (.bool (vld (tx ((dg7 N).set I (48 + D))))) ∧ (W.setCell ⟨g, I, none⟩ (.int .u8 (48 + (D : Int)))) = w') := valid_at _ _ (by rw [tx, List.length_map, hlen]; decide)
                      have BE : Hid (Below w.heap.size w (W.setCell ⟨g, I, none⟩ (.int .u8 (48 + (D : Int))))) := below_own BW.out GW.out
                      generalize vld (tx ((dg7 N).set I (48 + D))) = vv at *
                      generalize tx ((dg7 N).set I (48 + D)) = T1 at *
                      generalize (dg7 N).getD I 0 = x at *
                      clear PT h8 hlen
                      by_cases qe : (x : Int) = 48 + (D : Int)
                      · have hv : vv = true := by rw [VT.out]; exact decide_eq_true (by omega)
                        subst hv
                        have qb : ((x : Int) == 48 + (D : Int)) = true := by simp [qe]
                        clear qe VT
                        go_wp2_with fail
                        refine TX.out.mono ?_
                        rintro e w8 ⟨rfl, rfl⟩
                        go_wp2_with fail
                        refine VL.out.mono ?_
                        rintro e w8 ⟨rfl, rfl⟩
                        go_wp2_with fail
                        go_ret
                        exact ⟨rfl, BE.out⟩
                      · have hv : vv = false := by rw [VT.out]; exact decide_eq_false (fun e => qe (by omega))
                        subst hv
                        have qb : ((x : Int) == 48 + (D : Int)) = false := by simp [qe]
                        clear qe VT
                        go_wp2_with fail
                        refine TX.out.mono ?_
                        rintro e w8 ⟨rfl, rfl⟩
                        go_wp2_with fail
                        refine VL.out.mono ?_
                        rintro e w8 ⟨rfl, rfl⟩
                        go_wp2_with fail
                        go_ret
                        exact ⟨rfl, BE.out⟩
                    · have e2 : ((x : Int) == 48) = false := by simp [p2]
                      by_cases p3 : (x : Int) = 57
                      · have e3 : ((x : Int) == 57) = true := by simp [p3]
                        have hv2 : v2 = true := by rw [LTW.out]; exact decide_eq_true (by omega)
                        subst hv2
                        clear LTW p1 p2 p3
                        go_wp2_with fail
                        refine TX2.out.mono ?_
                        rintro e w8 ⟨rfl, rfl⟩
                        go_wp2_with fail
                        refine VL2.out.mono ?_
                        rintro e w8 ⟨rfl, rfl⟩
                        clear TX2 VL2 cI
                        have cI := HXX.out I hI7
                        have fI := FZ.out I
                        have VT : Hid (vld (tx ((dg7 N).set I (48 + D))) = decide ((dg7 N).getD I 0 = 48 + D)) := luhn_one N I D hI7 hD9
                        have PT := RowB.put RW.out.1 I (48 + D) (dg7_len N)
                        have hlen : ((dg7 N).set I (48 + D)).length = 7 := by rw [List.length_set]; rfl
                        have h8 : ∀ z ∈ (dg7 N).set I (48 + D), z < 256 := fun z hz => by
                          rcases List.mem_or_eq_of_mem_set hz with hz | hz
                          · exact D8.out z hz
                          · omega
                        have TX : Hid (Calls Tryd.prog 7 #[.slice (some ⟨g, 0, none⟩) 7 cap] (W.setCell ⟨g, I, none⟩ (.int .u8 (48 + (D : Int)))) fun e w' => e = .returned (.string ⟨(tx ((dg7 N).set I (48 + D))).toArray⟩) ∧ (W.setCell ⟨g, I, none⟩ (.int .u8 (48 + (D : Int)))) = w') := text_at _ _ _ (RowV.rd (by rw [show (48 + (D : Int)) = ((48 + D : Nat) : Int) by omega]; exact PT.1)) h8
                        have VL : Hid (Calls Tryd.prog 6 #[.string ⟨(tx ((dg7 N).set I (48 + D))).toArray⟩] (W.setCell ⟨g, I, none⟩ (.int .u8 (48 + (D : Int)))) fun e w' => e = .returned (.bool (vld (tx ((dg7 N).set I (48 + D))))) ∧ (W.setCell ⟨g, I, none⟩ (.int .u8 (48 + (D : Int)))) = w') := valid_at _ _ (by rw [tx, List.length_map, hlen]; decide)
                        have BE : Hid (Below w.heap.size w (W.setCell ⟨g, I, none⟩ (.int .u8 (48 + (D : Int))))) := below_own BW.out GW.out
                        generalize vld (tx ((dg7 N).set I (48 + D))) = vv at *
                        generalize tx ((dg7 N).set I (48 + D)) = T1 at *
                        generalize (dg7 N).getD I 0 = x at *
                        clear PT h8 hlen
                        by_cases qe : (x : Int) = 48 + (D : Int)
                        · have hv : vv = true := by rw [VT.out]; exact decide_eq_true (by omega)
                          subst hv
                          have qb : ((x : Int) == 48 + (D : Int)) = true := by simp [qe]
                          clear qe VT
                          go_wp2_with fail
                          refine TX.out.mono ?_
                          rintro e w8 ⟨rfl, rfl⟩
                          go_wp2_with fail
                          refine VL.out.mono ?_
                          rintro e w8 ⟨rfl, rfl⟩
                          go_wp2_with fail
                          go_ret
                          exact ⟨rfl, BE.out⟩
                        · have hv : vv = false := by rw [VT.out]; exact decide_eq_false (fun e => qe (by omega))
                          subst hv
                          have qb : ((x : Int) == 48 + (D : Int)) = false := by simp [qe]
                          clear qe VT
                          go_wp2_with fail
                          refine TX.out.mono ?_
                          rintro e w8 ⟨rfl, rfl⟩
                          go_wp2_with fail
                          refine VL.out.mono ?_
                          rintro e w8 ⟨rfl, rfl⟩
                          go_wp2_with fail
                          go_ret
                          exact ⟨rfl, BE.out⟩
                      · have e3 : ((x : Int) == 57) = false := by simp [p3]
                        have hv2 : v2 = false := by rw [LTW.out]; exact decide_eq_false (fun e => by omega)
                        subst hv2
                        clear LTW p1 p2 p3
                        go_wp2_with fail
                        refine TX2.out.mono ?_
                        rintro e w8 ⟨rfl, rfl⟩
                        go_wp2_with fail
                        refine VL2.out.mono ?_
                        rintro e w8 ⟨rfl, rfl⟩
                        clear TX2 VL2 cI
                        have cI := HXX.out I hI7
                        have fI := FZ.out I
                        have VT : Hid (vld (tx ((dg7 N).set I (48 + D))) = decide ((dg7 N).getD I 0 = 48 + D)) := luhn_one N I D hI7 hD9
                        have PT := RowB.put RW.out.1 I (48 + D) (dg7_len N)
                        have hlen : ((dg7 N).set I (48 + D)).length = 7 := by rw [List.length_set]; rfl
                        have h8 : ∀ z ∈ (dg7 N).set I (48 + D), z < 256 := fun z hz => by
                          rcases List.mem_or_eq_of_mem_set hz with hz | hz
                          · exact D8.out z hz
                          · omega
                        have TX : Hid (Calls Tryd.prog 7 #[.slice (some ⟨g, 0, none⟩) 7 cap] (W.setCell ⟨g, I, none⟩ (.int .u8 (48 + (D : Int)))) fun e w' => e = .returned (.string ⟨(tx ((dg7 N).set I (48 + D))).toArray⟩) ∧ (W.setCell ⟨g, I, none⟩ (.int .u8 (48 + (D : Int)))) = w') := text_at _ _ _ (RowV.rd (by rw [show (48 + (D : Int)) = ((48 + D : Nat) : Int) by omega]; exact PT.1)) h8
                        have VL : Hid (Calls Tryd.prog 6 #[.string ⟨(tx ((dg7 N).set I (48 + D))).toArray⟩] (W.setCell ⟨g, I, none⟩ (.int .u8 (48 + (D : Int)))) fun e w' => e = .returned (.bool (vld (tx ((dg7 N).set I (48 + D))))) ∧ (W.setCell ⟨g, I, none⟩ (.int .u8 (48 + (D : Int)))) = w') := valid_at _ _ (by rw [tx, List.length_map, hlen]; decide)
                        have BE : Hid (Below w.heap.size w (W.setCell ⟨g, I, none⟩ (.int .u8 (48 + (D : Int))))) := below_own BW.out GW.out
                        generalize vld (tx ((dg7 N).set I (48 + D))) = vv at *
                        generalize tx ((dg7 N).set I (48 + D)) = T1 at *
                        generalize (dg7 N).getD I 0 = x at *
                        clear PT h8 hlen
                        by_cases qe : (x : Int) = 48 + (D : Int)
                        · have hv : vv = true := by rw [VT.out]; exact decide_eq_true (by omega)
                          subst hv
                          have qb : ((x : Int) == 48 + (D : Int)) = true := by simp [qe]
                          clear qe VT
                          go_wp2_with fail
                          refine TX.out.mono ?_
                          rintro e w8 ⟨rfl, rfl⟩
                          go_wp2_with fail
                          refine VL.out.mono ?_
                          rintro e w8 ⟨rfl, rfl⟩
                          go_wp2_with fail
                          go_ret
                          exact ⟨rfl, BE.out⟩
                        · have hv : vv = false := by rw [VT.out]; exact decide_eq_false (fun e => qe (by omega))
                          subst hv
                          have qb : ((x : Int) == 48 + (D : Int)) = false := by simp [qe]
                          clear qe VT
                          go_wp2_with fail
                          refine TX.out.mono ?_
                          rintro e w8 ⟨rfl, rfl⟩
                          go_wp2_with fail
                          refine VL.out.mono ?_
                          rintro e w8 ⟨rfl, rfl⟩
                          go_wp2_with fail
                          go_ret
                          exact ⟨rfl, BE.out⟩
                  · have e1 : ((x : Int) - 48 + ((y : Int) - 48) == 9) = false := by simp [p1]
                    have hv2 : v2 = false := by rw [LTW.out]; exact decide_eq_false (fun e => by omega)
                    subst hv2
                    clear LTW p1
                    go_wp2_with fail
                    refine TX2.out.mono ?_
                    rintro e w8 ⟨rfl, rfl⟩
                    go_wp2_with fail
                    refine VL2.out.mono ?_
                    rintro e w8 ⟨rfl, rfl⟩
                    clear TX2 VL2 cI
                    have cI := HXX.out I hI7
                    have fI := FZ.out I
                    have VT : Hid (vld (tx ((dg7 N).set I (48 + D))) = decide ((dg7 N).getD I 0 = 48 + D)) := luhn_one N I D hI7 hD9
                    have PT := RowB.put RW.out.1 I (48 + D) (dg7_len N)
                    have hlen : ((dg7 N).set I (48 + D)).length = 7 := by rw [List.length_set]; rfl
                    have h8 : ∀ z ∈ (dg7 N).set I (48 + D), z < 256 := fun z hz => by
                      rcases List.mem_or_eq_of_mem_set hz with hz | hz
                      · exact D8.out z hz
                      · omega
                    have TX : Hid (Calls Tryd.prog 7 #[.slice (some ⟨g, 0, none⟩) 7 cap] (W.setCell ⟨g, I, none⟩ (.int .u8 (48 + (D : Int)))) fun e w' => e = .returned (.string ⟨(tx ((dg7 N).set I (48 + D))).toArray⟩) ∧ (W.setCell ⟨g, I, none⟩ (.int .u8 (48 + (D : Int)))) = w') := text_at _ _ _ (RowV.rd (by rw [show (48 + (D : Int)) = ((48 + D : Nat) : Int) by omega]; exact PT.1)) h8
                    have VL : Hid (Calls Tryd.prog 6 #[.string ⟨(tx ((dg7 N).set I (48 + D))).toArray⟩] (W.setCell ⟨g, I, none⟩ (.int .u8 (48 + (D : Int)))) fun e w' => e = .returned (.bool (vld (tx ((dg7 N).set I (48 + D))))) ∧ (W.setCell ⟨g, I, none⟩ (.int .u8 (48 + (D : Int)))) = w') := valid_at _ _ (by rw [tx, List.length_map, hlen]; decide)
                    have BE : Hid (Below w.heap.size w (W.setCell ⟨g, I, none⟩ (.int .u8 (48 + (D : Int))))) := below_own BW.out GW.out
                    generalize vld (tx ((dg7 N).set I (48 + D))) = vv at *
                    generalize tx ((dg7 N).set I (48 + D)) = T1 at *
                    generalize (dg7 N).getD I 0 = x at *
                    clear PT h8 hlen
                    by_cases qe : (x : Int) = 48 + (D : Int)
                    · have hv : vv = true := by rw [VT.out]; exact decide_eq_true (by omega)
                      subst hv
                      have qb : ((x : Int) == 48 + (D : Int)) = true := by simp [qe]
                      clear qe VT
                      go_wp2_with fail
                      refine TX.out.mono ?_
                      rintro e w8 ⟨rfl, rfl⟩
                      go_wp2_with fail
                      refine VL.out.mono ?_
                      rintro e w8 ⟨rfl, rfl⟩
                      go_wp2_with fail
                      go_ret
                      exact ⟨rfl, BE.out⟩
                    · have hv : vv = false := by rw [VT.out]; exact decide_eq_false (fun e => qe (by omega))
                      subst hv
                      have qb : ((x : Int) == 48 + (D : Int)) = false := by simp [qe]
                      clear qe VT
                      go_wp2_with fail
                      refine TX.out.mono ?_
                      rintro e w8 ⟨rfl, rfl⟩
                      go_wp2_with fail
                      refine VL.out.mono ?_
                      rintro e w8 ⟨rfl, rfl⟩
                      go_wp2_with fail
                      go_ret
                      exact ⟨rfl, BE.out⟩
              · have HXX : Hid (∀ j, j < 7 → w3.cell? ⟨g, j, none⟩ = some (.int .u8 (((dg7 N).getD j 0 : Nat) : Int))) := HX
                have FZ : Hid (∀ j, w3.frozen? ⟨g, j, none⟩ = false) := hfz
                have RW : Hid (RowB 5 w2.heap.size w3 (.slice (some ⟨g, 0, none⟩) 7 cap) (dg7 N) ∧ True) := ⟨R3.out.1, trivial⟩
                have BW := B3
                clear HX hfz
                have qd : decide ((I : Int) + 1 < 7) = false := decide_eq_false q6
                go_wp2_with fail
                go_quiet (fail)
                clear qd
                have HXX : Hid (∀ j, j < 7 → (w3.drewN nq).cell? ⟨g, j, none⟩ = some (.int .u8 (((dg7 N).getD j 0 : Nat) : Int))) := HXX.out
                have FZ : Hid (∀ j, (w3.drewN nq).frozen? ⟨g, j, none⟩ = false) := FZ.out
                have RW : Hid (RowB 5 w2.heap.size (w3.drewN nq) (.slice (some ⟨g, 0, none⟩) 7 cap) (dg7 N) ∧ True) := ⟨RW.out.1, trivial⟩
                have BW : Hid (Below w.heap.size w (w3.drewN nq)) := below_drewN BW.out nq
                generalize w3.drewN nq = W at *
                clear R3 B3
                have cI := HXX.out I hI7
                have fI := FZ.out I
                have VT : Hid (vld (tx ((dg7 N).set I (48 + D))) = decide ((dg7 N).getD I 0 = 48 + D)) := luhn_one N I D hI7 hD9
                have PT := RowB.put RW.out.1 I (48 + D) (dg7_len N)
                have hlen : ((dg7 N).set I (48 + D)).length = 7 := by rw [List.length_set]; rfl
                have h8 : ∀ z ∈ (dg7 N).set I (48 + D), z < 256 := fun z hz => by
                  rcases List.mem_or_eq_of_mem_set hz with hz | hz
                  · exact D8.out z hz
                  · omega
                have TX : Hid (Calls Tryd.prog 7 #[.slice (some ⟨g, 0, none⟩) 7 cap] (W.setCell ⟨g, I, none⟩ (.int .u8 (48 + (D : Int)))) fun e w' => e = .returned (.string ⟨(tx ((dg7 N).set I (48 + D))).toArray⟩) ∧ (W.setCell ⟨g, I, none⟩ (.int .u8 (48 + (D : Int)))) = w') := text_at _ _ _ (RowV.rd (by rw [show (48 + (D : Int)) = ((48 + D : Nat) : Int) by omega]; exact PT.1)) h8
                have VL : Hid (Calls Tryd.prog 6 #[.string ⟨(tx ((dg7 N).set I (48 + D))).toArray⟩] (W.setCell ⟨g, I, none⟩ (.int .u8 (48 + (D : Int)))) fun e w' => e = .returned (.bool (vld (tx ((dg7 N).set I (48 + D))))) ∧ (W.setCell ⟨g, I, none⟩ (.int .u8 (48 + (D : Int)))) = w') := valid_at _ _ (by rw [tx, List.length_map, hlen]; decide)
                have BE : Hid (Below w.heap.size w (W.setCell ⟨g, I, none⟩ (.int .u8 (48 + (D : Int))))) := below_own BW.out GW.out
                generalize vld (tx ((dg7 N).set I (48 + D))) = vv at *
                generalize tx ((dg7 N).set I (48 + D)) = T1 at *
                generalize (dg7 N).getD I 0 = x at *
                clear PT h8 hlen
                by_cases qe : (x : Int) = 48 + (D : Int)
                · have hv : vv = true := by rw [VT.out]; exact decide_eq_true (by omega)
                  subst hv
                  have qb : ((x : Int) == 48 + (D : Int)) = true := by simp [qe]
                  clear qe VT
                  go_wp2_with fail
                  refine TX.out.mono ?_
                  rintro e w8 ⟨rfl, rfl⟩
                  go_wp2_with fail
                  refine VL.out.mono ?_
                  rintro e w8 ⟨rfl, rfl⟩
                  go_wp2_with fail
                  go_ret
                  exact ⟨rfl, BE.out⟩
                · have hv : vv = false := by rw [VT.out]; exact decide_eq_false (fun e => qe (by omega))
                  subst hv
                  have qb : ((x : Int) == 48 + (D : Int)) = false := by simp [qe]
                  clear qe VT
                  go_wp2_with fail
                  refine TX.out.mono ?_
                  rintro e w8 ⟨rfl, rfl⟩
                  go_wp2_with fail
                  refine VL.out.mono ?_
                  rintro e w8 ⟨rfl, rfl⟩
                  go_wp2_with fail
                  go_ret
                  exact ⟨rfl, BE.out⟩
    · have own1 := HR.out.1
      have hsz1 := HR.out.2.size
      have HLN : Hid (((dg6 N).take k).length = k) := by show _ = _; rw [List.length_take]; exact Nat.min_eq_left hk
      have l1 : (((dg6 N).take k).map bv).length + 1 ≤ maxLen := by rw [List.length_map, HLN.out]; unfold maxLen; omega
      have l2 : ((((dg6 N).take k).map bv).length + 1) * 1 ≤ 140737488355328 := by rw [List.length_map, HLN.out]; omega
      obtain ⟨P, p, hP, hP0, hPd, hp, hpb, hpt, hpn⟩ : ∃ P p : Nat, pl k = P ∧ 0 < P ∧ P ≤ 100000 ∧ ((N : Int) / (P : Int)) % 10 = (p : Int) ∧ p ≤ 9 ∧ (dg6 N).take (k + 1) = (dg6 N).take k ++ [48 + p] ∧ pl (k + 1) = P / 10 := by
        have hk5 : k < 6 := by omega
        match k, hk5 with
        | 0, _ => exact ⟨100000, N / 100000 % 10, rfl, by omega, by omega, by omega, by omega, rfl, rfl⟩
        | 1, _ => exact ⟨10000, N / 10000 % 10, rfl, by omega, by omega, by omega, by omega, rfl, rfl⟩
        | 2, _ => exact ⟨1000, N / 1000 % 10, rfl, by omega, by omega, by omega, by omega, rfl, rfl⟩
        | 3, _ => exact ⟨100, N / 100 % 10, rfl, by omega, by omega, by omega, by omega, rfl, rfl⟩
        | 4, _ => exact ⟨10, N / 10 % 10, rfl, by omega, by omega, by omega, by omega, rfl, rfl⟩
        | 5, _ => exact ⟨1, N % 10, rfl, by omega, by omega, by omega, by omega, rfl, rfl⟩
      rw [hP]
      have HPT : Hid ((dg6 N).take (k + 1) = (dg6 N).take k ++ [48 + p]) := hpt
      have HPN : Hid (pl (k + 1) = P / 10) := hpn
      have HP0 : (P : Int) ≠ 0 := by omega
      have hPP : 0 < (P : Int) := by omega
      have hq0 : 0 ≤ (N : Int) / (P : Int) := Int.ediv_nonneg (by omega) (by omega)
      have hq1 : (N : Int) / (P : Int) ≤ 999999 := Int.le_trans (Int.ediv_le_self _ (by omega)) (by omega)
      have htd : (N : Int).tdiv (P : Int) = (N : Int) / (P : Int) := Int.tdiv_eq_ediv_of_nonneg (by omega)
      clear hpt hpn hP
      generalize (N : Int) / (P : Int) = q at *
      have htm : q.tmod 10 = (p : Int) := by rw [Int.tmod_eq_emod_of_nonneg hq0]; exact hp
      go_wp2_with (at_builtin; refine wpList_pushV rfl (.tmp 46) (.tmp 53) 24 rfl 5 i0 (.int .u8 0) 1 underB hi0 hz0 hz1 hz2 rfl w2.heap.size _ _ _ rfl rfl own1 hsz1 rfl l1 l2 ?_; intro v3 w3 r3 g3)
      have R3 : Hid (RowB 5 w2.heap.size w3 v3 ((dg6 N).take (k + 1)) ∧ Below w2.heap.size w2 w3) := ⟨by rw [HPT.out]; exact rowB_push r3 (by omega), below_grown HR.out.2 own1 (Nat.le_refl _) hsz1 g3⟩
      obtain ⟨a3, c3, rfl, -, -⟩ := (RowV.rd r3).len
      clear r3 g3 own1 hsz1 l1 l2 HR
      have hd1 : (P : Int).tdiv 10 = ((P / 10 : Nat) : Int) := by rw [Int.tdiv_eq_ediv_of_nonneg (by omega)]; omega
      go_wp2_with fail
      go_roundw
      case rel => exact ⟨k + 1, a3, _, c3, by omega, by rw [HPN.out]; go_num, rfl, R3⟩
      case measure => simp [intOf]; omega
set_option maxRecDepth 40000 in
set_option maxHeartbeats 2000000 in
theorem luhn_out (n : Int) (hn : ¬ (0 ≤ n ∧ n ≤ 999999)) (i d : Int) (w : World) :
    Calls Tryd.prog 3 #[.int .i64 n, .int .i64 i, .int .i64 d] w fun e w' => e = .returned (.bool true) ∧ Below w.heap.size w w' := by
  have CN : Hid (Calls Tryd.prog 5 #[.int .i64 n] w fun e w' => e = .returned (.tuple #[.int .i64 0, .bool false]) ∧ w = w') := checkNum_no n hn w
  by_cases h1 : n < 0
  · clear hn
    go_enter Tryd.func3, Tryd.ntmps3
    go_wp2_with fail
    refine CN.out.mono ?_
    rintro e w2 ⟨rfl, rfl⟩
    go_wp2_with fail
    go_ret
    exact ⟨rfl, Below.refl _ _⟩
  · have h2 : 999999 < n := by omega
    clear hn
    go_enter Tryd.func3, Tryd.ntmps3
    go_wp2_with fail
    refine CN.out.mono ?_
    rintro e w2 ⟨rfl, rfl⟩
    go_wp2_with fail
    go_ret
    exact ⟨rfl, Below.refl _ _⟩
theorem luhn_any (n i d : Int) (_hn : -9223372036854775808 ≤ n ∧ n ≤ 9223372036854775807) (hi : -9223372036854775808 ≤ i ∧ i ≤ 9223372036854775807) (hd : -9223372036854775808 ≤ d ∧ d ≤ 9223372036854775807) (w : World) (ht : TabP w) :
    Calls Tryd.prog 3 #[.int .i64 n, .int .i64 i, .int .i64 d] w fun e w' => e = .returned (.bool true) ∧ Below w.heap.size w w' := by
  by_cases h : 0 ≤ n ∧ n ≤ 999999
  · obtain ⟨N, rfl⟩ : ∃ N : Nat, n = (N : Int) := ⟨n.toNat, by omega⟩
    exact luhn_in N (by omega) i d hi hd w ht
  · exact luhn_out n h i d w
end Go.Proofs.YtkikpdgpggbakaaDoor
