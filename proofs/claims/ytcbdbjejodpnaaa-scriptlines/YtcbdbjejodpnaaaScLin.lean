/-
  Ours: the walk of ScriptLines.
-/
import Derived.Test.YtcbdbjejodpnaaaScRef
import Derived.Test.YtcbdbjejodpnaaaScLaw
namespace Go.Proofs.Ytcbdbjejodpnaaa
open Go.RowKit

def marks3 : List Nat := [201, 202, 203]
theorem rd_new (w : World) (ty : TypeId) (cs : List Value) : Rd (w.alloc (.cells cs.toArray ty)) (.slice (some ⟨w.heap.size, 0, none⟩) cs.length cs.length) cs := by
  refine ⟨_, _, rfl, Nat.le_refl _, (fun h => by cases h), fun i hi => ⟨w.heap.size, 0, rfl, by simp, ?_⟩⟩
  rw [Nat.zero_add]
  exact Blk.cell (Blk.new ty cs w) i cs[i] (List.getElem?_eq_getElem hi)

set_option maxHeartbeats 1000000 in
theorem roomy_at (bs : List Nat) (v : Value) (w : World) (hl : bs.length ≤ 1000000000000) (h : RdB w v bs) : Calls Try.prog 9 #[v] w (NewB w (bs ++ marks3)) := by
  obtain ⟨i0, hi, hz0, hz1, hz2⟩ := info_parts infoB
  have C : Hid (Calls Try.prog 5 #[v] w (NewB w bs)) := copied_at bs v w (by omega) h
  obtain ⟨ao, cap, rfl, _, _⟩ := h.len
  clear h
  generalize (bs.map bv).length = L at *
  go_enter Try.func9, Try.ntmps9
  go_wp2_with fail
  refine C.out.mono ?_
  rintro e w1 ⟨v1, rfl, r1, b1⟩
  have own1 := RowV.later r1 (below_alloc w1 (.cells #[.int .u8 201, .int .u8 202, .int .u8 203] 5))
  have B1 := below_trans b1 (below_alloc w1 (.cells #[.int .u8 201, .int .u8 202, .int .u8 203] 5))
  have rd1 : Rd (w1.alloc (.cells #[.int .u8 201, .int .u8 202, .int .u8 203] 5)) (.slice (some ⟨w1.heap.size, 0, none⟩) 3 3) (marks3.map bv) := rd_new w1 5 (marks3.map bv)
  have hsz := B1.size
  have one := one_bv marks3
  have l1 : (bs.map bv).length + (marks3.map bv).length ≤ maxLen := by simp only [List.length_map]; unfold maxLen; simp [marks3]; omega
  have l2 : ((bs.map bv).length + (marks3.map bv).length) * 1 ≤ 140737488355328 := by simp only [List.length_map]; simp [marks3]; omega
  clear r1 b1 C
  go_wp2_with (at_builtin; refine wpList_catV rfl (.tmp 4) (.tmp 5) 22 rfl 5 i0 (.int .u8 0) 1 underB hi hz0 hz1 hz2 rfl w.heap.size _ _ _ _ one rfl own1 hsz rfl rd1 l1 l2 ?_; intro v3 w3 r3 g3)
  go_ret
  exact ⟨v3, rfl, by rw [RowB, List.map_append]; exact r3, below_grown B1 own1 (Nat.le_refl _) hsz g3⟩

theorem RowB.head {B : Nat} {w : World} {v : Value} {bs M : List Nat} (h : RowB 5 B w v (bs ++ M)) (hM : 0 < M.length) : ∃ g cap, v = .slice (some ⟨g, 0, none⟩) (bs.length + M.length) cap ∧ bs.length ≤ cap ∧ B ≤ g ∧ g < w.heap.size := by
  obtain ⟨g, cap, e, hc, -, -⟩ := RowV.own h (by rw [List.length_map, List.length_append]; omega)
  rw [List.length_map, List.length_append] at e hc
  exact ⟨g, cap, e, by omega, by rw [e] at h; exact RowV.block_ge h rfl, by rw [e] at h; exact RowV.block_lt h rfl⟩
theorem RowB.front {B g n cap : Nat} {w : World} {bs M : List Nat} (h : RowB 5 B w (.slice (some ⟨g, 0, none⟩) n cap) (bs ++ M)) (hn : bs.length ≤ n) : RdB w (.slice (some ⟨g, 0, none⟩) bs.length cap) bs := by
  have := Rd.cut (k := bs.length) (RowV.rd h) hn
  rw [← List.map_take, List.take_left] at this
  exact this

set_option maxRecDepth 20000 in
set_option maxHeartbeats 4000000 in
theorem scriptLines_any (bs : List Nat) (v : Value) (w : World) (hb : ∀ b ∈ bs, b < 256) (h : RdB w v bs) : Calls Try.prog 4 #[v] w fun e w' => e = .returned (.bool true) ∧ Below w.heap.size w w' := by
  obtain ⟨i0, hi, hz0, hz1, hz2⟩ := info_parts infoB
  obtain ⟨ao, cap, rfl, -, -⟩ := h.len
  rw [List.length_map] at h ⊢
  by_cases hbig : (200000 : Int) < (bs.length : Int)
  · clear h hb
    generalize bs.length = L at *
    go_enter Try.func4, Try.ntmps4
    go_wp2_with fail
    go_ret
    exact ⟨rfl, Below.refl _ _⟩
  have LL : bs.length ≤ 200000 := by omega
  have RM : Hid (∀ w', Below w.heap.size w w' → Calls Try.prog 9 #[.slice ao bs.length cap] w' (NewB w' (bs ++ marks3))) := fun w' b => roomy_at bs _ w' (by omega) (Rd.later h b)
  have RL : Hid (∀ w', RdB w' (.slice ao bs.length cap) bs → Calls Try.prog 10 #[.slice ao bs.length cap] w' (NewLs w' (ScM.lns bs))) := fun w' b => rlines_at bs _ w' (by omega) b
  have LN : Hid (∀ v' w' (cs : List Nat), cs.length ≤ 200000 → (∀ b ∈ cs, b < 256) → RdB w' v' cs → Calls Try.prog 6 #[v'] w' (NewLs w' (ScM.lns cs))) := fun v' w' cs h1 h2 h3 => lines_at cs v' w' h2 (by omega) h3
  have AL : Hid (∀ va vb w' (cs : List Nat), cs.length ≤ 200000 → RdR w' va (ScM.lns cs) → RdR w' vb (ScM.lns cs) → Calls Try.prog 7 #[va, vb] w' fun e w'' => e = .returned (.bool true) ∧ ∃ n, w'' = w'.drewN n) := fun va vb w' cs h1 h2 h3 => alike_at (ScM.lns cs) va vb w' (by have := ScM.lns_len cs; omega) (fun x hx => by have := ScM.lns_mem hx; omega) h2 h3
  have HH : Hid (RdB w (.slice ao bs.length cap) bs) := h
  have HB : Hid (∀ b ∈ bs, b < 256) := hb
  obtain ⟨L, hL⟩ : ∃ L, bs.length = L := ⟨_, rfl⟩
  have HL : Hid (bs.length = L) := hL
  have CL : Hid (bs.length ≤ 200000) := LL
  rw [hL] at RM RL HH hbig ⊢
  clear h hb LL hL
  go_enter Try.func4, Try.ntmps4
  go_wp2_with fail
  refine (RM.out _ (Below.refl _ _)).mono ?_
  rintro e w1 ⟨vr, rfl, r1, b1⟩
  obtain ⟨g, rc, ev, hrc, gge, glt⟩ := RowB.head r1 (by decide)
  have e3 : marks3.length = 3 := rfl
  rw [HL.out, e3] at ev
  rw [HL.out] at hrc
  subst ev
  have f1 := RowB.front r1 (by rw [HL.out]; omega)
  rw [HL.out] at f1
  have R1 : Hid (RowB 5 w.heap.size w1 (.slice (some ⟨g, 0, none⟩) (L + 3) rc) (bs ++ marks3)) := r1
  have F1 : Hid (RdB w1 (.slice (some ⟨g, 0, none⟩) L rc) bs) := f1
  clear r1 f1 e3
  go_wp2_with fail
  refine (LN.out _ _ bs CL.out HB.out F1.out).mono ?_
  rintro e w2 ⟨la, lc, rfl, l2, b2⟩
  have L2 : Hid (RowsV w1.heap.size w2 (.slice la (ScM.lns bs).length lc) (ScM.lns bs)) := l2
  have B2 := below_trans b1 b2
  clear l2
  generalize hN : (ScM.lns bs).length = N at *
  go_wp2_with fail
  refine (RL.out _ (Rd.later HH.out B2)).mono ?_
  rintro e w3 ⟨ra, rcc, rfl, l3, b3⟩
  rw [hN] at l3 ⊢
  go_wp2_with fail
  refine (AL.out _ _ _ bs CL.out (RdR.later L2.out.rd b3) l3.rd).mono ?_
  rintro e w4 ⟨rfl, n4, hw4⟩
  have b4 : Below w2.heap.size w2 w4 := by rw [hw4]; exact below_drewN b3 n4
  have B4 := below_trans B2 b4
  clear hw4 l3
  go_wp2_with fail
  refine (RM.out _ B4).mono ?_
  rintro e w5 ⟨vq, rfl, r5, b5⟩
  obtain ⟨g2, c2, ev2, -, -, -⟩ := RowB.head r5 (by decide)
  have e3 : marks3.length = 3 := rfl
  rw [HL.out, e3] at ev2
  subst ev2
  have B5 := below_trans B4 b5
  have R5 : Hid (RowB 5 w.heap.size w5 (.slice (some ⟨g, 0, none⟩) (L + 3) rc) (bs ++ marks3)) := RowV.later R1.out (below_trans b2 (below_trans b4 b5))
  have L5 : Hid (RowsV w1.heap.size w5 (.slice la N lc) (ScM.lns bs)) := L2.out.later (below_trans b4 b5)
  have SM : Hid (Calls Try.prog 8 #[.slice (some ⟨g, 0, none⟩) (L + 3) rc, .slice (some ⟨g2, 0, none⟩) (L + 3) c2] w5 fun e w'' => e = .returned (.bool true) ∧ ∃ n, w'' = w5.drewN n) := by
    have hlen : (bs ++ marks3).length ≤ 140737488355328 := by have := CL.out; rw [List.length_append, e3]; omega
    have hs := same_at (bs ++ marks3) (bs ++ marks3) _ _ w5 hlen (RowV.rd R5.out) (RowV.rd r5)
    rw [decide_eq_true rfl] at hs
    exact hs
  clear r5 R1 L2 F1 e3 b1 b2 b3 b4 b5 B2 B4
  go_wp2_with fail
  refine SM.out.mono ?_
  rintro e w6 ⟨rfl, n6, hw6⟩
  have b6 : Below w5.heap.size w5 w6 := by rw [hw6]; exact below_drewN (Below.refl _ _) n6
  have B6 := below_trans B5 b6
  have R6 : Hid (RowB 5 w.heap.size w6 (.slice (some ⟨g, 0, none⟩) (L + 3) rc) (bs ++ marks3)) := RowV.later R5.out b6
  have L6 : Hid (RowsV w1.heap.size w6 (.slice la N lc) (ScM.lns bs)) := L5.out.later b6
  clear SM R5 L5 hw6 b6 B5
  by_cases h0 : L = 0
  · have d0 : (((L : Nat) : Int) == 0) = true := by rw [h0]; rfl
    clear R6 L6 h0
    go_wp2_with fail
    go_ret
    exact ⟨rfl, B6⟩
  have d0 : (((L : Nat) : Int) == 0) = false := by rw [beq_eq_false_iff_ne]; omega
  have hlen3 : (bs ++ marks3).length = L + 3 := by rw [List.length_append, HL.out]; rfl
  obtain ⟨g', cp', eg, -, hcell, hfz⟩ := RowV.own R6.out (by rw [List.length_map]; omega)
  obtain ⟨rfl, rfl⟩ : g = g' ∧ rc = cp' := by injection eg with e1 e2 e3; injection e1 with e1; injection e1 with e1; exact ⟨e1, e3⟩
  obtain ⟨u0, c0⟩ : ∃ u0, w6.cell? ⟨g, 0, none⟩ = some u0 := ⟨_, hcell 0 (by rw [List.length_map]; omega)⟩
  have f0 := hfz 0
  obtain ⟨s6, g6⟩ := rowV_set (i := 0) (u := .int .u8 ((35 : Nat) : Int)) (by rw [List.length_map, hlen3]) R6.out
  rw [map_set_bv, show (bs ++ marks3).set 0 35 = bs.set 0 35 ++ marks3 by rw [List.set_append_left _ _ (by have := HL.out; omega)]] at s6
  have k6 : Kp (fun k => some g = some k) w6 (w6.setCell ⟨g, 0, none⟩ (.int .u8 ((35 : Nat) : Int))) := Kp.of_grown g6
  have L7 : Hid (RowsV w1.heap.size (w6.setCell ⟨g, 0, none⟩ (.int .u8 ((35 : Nat) : Int))) (.slice la N lc) (ScM.lns bs)) := L6.out.kp k6 (fun k hk => by injection hk with hk; omega)
  have T7 : Hid (RdB (w6.setCell ⟨g, 0, none⟩ (.int .u8 ((35 : Nat) : Int))) (.slice ao L cap) bs) := Rd.kp (Rd.later HH.out B6) k6 (fun k hk hg => by
    injection hg with hg
    have := Rd.block HH.out (by rw [List.length_map, HL.out]; omega) hk
    omega)
  have B7 : Hid (Below w.heap.size w (w6.setCell ⟨g, 0, none⟩ (.int .u8 ((35 : Nat) : Int)))) := B6.grown g6 B6.size (fun k hk => by injection hk with hk; omega)
  have hl7 : (bs.set 0 35).length = L := by rw [List.length_set, HL.out]
  have F7 := RowB.front s6 (by omega)
  rw [hl7] at F7
  have F7' : Hid (RdB (w6.setCell ⟨g, 0, none⟩ (.int .u8 ((35 : Nat) : Int))) (.slice (some ⟨g, 0, none⟩) L rc) (bs.set 0 35)) := F7
  have HB7 : Hid (∀ b ∈ bs.set 0 35, b < 256) := fun b hb => by
    rcases List.mem_or_eq_of_mem_set hb with h1 | h1
    · exact HB.out b h1
    · omega
  have CL7 : Hid ((bs.set 0 35).length ≤ 200000) := by have := CL.out; have := HL.out; show _ ≤ _; omega
  have i0L : (0 : Int) < (L : Int) + 3 := by omega
  have HL7 : Hid ((bs.set 0 35).length = L) := hl7
  clear F7 s6 g6 k6 R6 L6 B6 hlen3 hl7 hcell hfz eg
  generalize bs.set 0 35 = cs at *
  obtain ⟨w7, hw7⟩ : ∃ w7, w6.setCell ⟨g, 0, none⟩ (.int .u8 ((35 : Nat) : Int)) = w7 := ⟨_, rfl⟩
  rw [hw7] at L7 T7 B7 F7'
  have hw7' : w6.setCell ⟨g, 0, none⟩ (.int .u8 35) = w7 := hw7
  clear hw7
  go_wp2_with fail
  refine (LN.out _ _ cs CL7.out HB7.out F7'.out).mono ?_
  rintro e w8 ⟨pa, pc, rfl, l8, b8⟩
  have L8 : Hid (RowsV w7.heap.size w8 (.slice pa (ScM.lns cs).length pc) (ScM.lns cs)) := l8
  have B8 := below_trans B7.out b8
  have bA := below_alloc w8 (.cells #[] 5)
  have own0 : RowV 5 w8.heap.size (w8.alloc (.cells #[] 5)) (.slice (some ⟨w8.heap.size, 0, none⟩) 0 0) [] := ⟨by simp, .inr ⟨w8.heap.size, 0, #[], rfl, Nat.le_refl _, (MapKept.heap_alloc w8 _).1, by simp, by unfold maxLen; omega, rfl, rfl⟩⟩
  have rd8 := Rd.later F7'.out (below_trans b8 bA)
  have hs8 : w8.heap.size ≤ (w8.alloc (.cells #[] 5)).heap.size := bA.size
  have one := one_bv cs
  have l1 : ([] : List Value).length + (cs.map bv).length ≤ maxLen := by simp only [List.length_map, List.length_nil]; have := CL7.out; unfold maxLen; omega
  have l2 : (([] : List Value).length + (cs.map bv).length) * 1 ≤ 140737488355328 := by simp only [List.length_map, List.length_nil]; have := CL7.out; omega
  have T8 : Hid (RdB w8 (.slice ao L cap) bs) := Rd.later T7.out b8
  have M8 : Hid (RowsV w1.heap.size w8 (.slice la N lc) (ScM.lns bs)) := L7.out.later b8
  clear l8 T7 L7 F7' B7 b8
  generalize hN2 : (ScM.lns cs).length = N2 at *
  obtain ⟨us, hus⟩ : ∃ us, cs.map bv = us := ⟨_, rfl⟩
  rw [hus] at one l1 l2 rd8
  have HU : Hid (cs.map bv = us) := hus
  clear hus
  go_wp2_with (at_builtin; refine wpList_catV rfl (.tmp 39) (.tmp 43) 22 rfl 5 i0 (.int .u8 0) 1 underB hi hz0 hz1 hz2 rfl w8.heap.size _ _ _ _ one rfl own0 hs8 rfl rd8 l1 l2 ?_; intro v9 w9 r9 g9)
  have b9 : Below w8.heap.size w8 w9 := below_grown bA own0 (Nat.le_refl _) hs8 g9
  have r9' : RowB 5 w8.heap.size w9 v9 cs := by rw [RowB, HU.out]; simpa using r9
  obtain ⟨oa, oc, eo, -, -⟩ := (RowV.rd r9').len
  rw [List.length_map, HL7.out] at eo
  subst eo
  have L9 : Hid (RowsV w7.heap.size w9 (.slice pa N2 pc) (ScM.lns cs)) := L8.out.later b9
  have T9 : Hid (RdB w9 (.slice ao L cap) bs) := Rd.later T8.out b9
  have M9 : Hid (RowsV w1.heap.size w9 (.slice la N lc) (ScM.lns bs)) := M8.out.later b9
  have B9 := below_trans B8 b9
  have RO : Hid (Calls Try.prog 10 #[.slice oa L oc] w9 (NewLs w9 (ScM.lns cs))) := rlines_at cs _ w9 (by have := CL7.out; omega) (RowV.rd r9')
  clear r9 g9 own0 rd8 one bA l1 l2 L8 T8 M8 B8 b9 r9' HU
  go_wp2_with fail
  refine RO.out.mono ?_
  rintro e w10 ⟨xa, xc, rfl, l10, b10⟩
  rw [hN2] at l10 ⊢
  go_wp2_with fail
  refine (AL.out _ _ _ cs CL7.out (RdR.later L9.out.rd b10) l10.rd).mono ?_
  rintro e w11 ⟨rfl, n11, hw11⟩
  have b11 : Below w9.heap.size w9 w11 := by rw [hw11]; exact below_drewN b10 n11
  have B11 := below_trans B9 b11
  clear hw11 l10 b10
  go_wp2_with fail
  refine (RL.out _ (Rd.later T9.out b11)).mono ?_
  rintro e w12 ⟨ya, yc, rfl, l12, b12⟩
  rw [hN] at l12 ⊢
  go_wp2_with fail
  refine (AL.out _ _ _ bs CL.out (RdR.later M9.out.rd (below_trans b11 b12)) l12.rd).mono ?_
  rintro e w13 ⟨rfl, n13, hw13⟩
  have B13 : Below w.heap.size w w13 := by rw [hw13]; exact below_drewN (below_trans B11 b12) n13
  clear hw13
  go_wp2_with fail
  go_ret
  exact ⟨rfl, B13⟩
end Go.Proofs.Ytcbdbjejodpnaaa
