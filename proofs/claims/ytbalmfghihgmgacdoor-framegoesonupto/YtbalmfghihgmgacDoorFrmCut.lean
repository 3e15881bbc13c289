/-
  Ours: the walk of FrameCutAgain.
-/
import Derived.Test.YtbalmfghihgmgacDoorFrmLaw2
import Derived.Test.YtbalmfghihgmgacDoorFrmEnc
namespace Go.Proofs.YtbalmfghihgmgacDoor
open Go.RowKit

theorem scan_enc {p : List Nat} (hp : p.length ≤ 4194304) (q : List Nat) : CrcM.scan (CrcM.enc p ++ q) = (p :: (CrcM.scan q).1, p.length + 8 + (CrcM.scan q).2.1, (CrcM.scan q).2.2) := by
  obtain ⟨w1, w2⟩ := CrcM.whole_enc hp q
  rw [CrcM.scan_some (by rw [w1]; simp), w1, w2]
  simp only
  rw [CrcM.drop4 _ _ _ (CrcM.enc_len p)]
theorem scan_small : ∀ (n : Nat) (l : List Nat), l.length ≤ n → ∀ x ∈ (CrcM.scan l).1, x.length ≤ l.length
  | n, l, hn => by
    by_cases h : (CrcM.whole l).1 = 0
    · rw [CrcM.scan_none h]; intro x hx; cases hx
    · obtain ⟨h1, _, h3, h4, _⟩ := CrcM.whole_pos h
      have pl := CrcM.pay_len h
      match n with
      | 0 => omega
      | n + 1 =>
        have ih := scan_small n (l.drop (CrcM.whole l).1) (by simp; omega)
        rw [CrcM.scan_some h]
        intro x hx
        rcases List.mem_cons.1 hx with e | e
        · subst e; omega
        · have := ih x e
          rw [List.length_drop] at this
          omega

set_option maxRecDepth 100000 in
set_option maxHeartbeats 2000000 in
theorem cut_any (p q : List Nat) (vp vq : Value) (w : World) (hp : ∀ b ∈ p, b < 256) (hq : ∀ b ∈ q, b < 256) (h1 : RdB w vp p) (h2 : RdB w vq q) (hT : TabS w) :
    Calls Tryd.prog 3 #[vp, vq] w fun e w' => e = .returned (.bool true) ∧ Below w.heap.size w w' := by
  obtain ⟨a1, c1, rfl, _, _⟩ := h1.len
  obtain ⟨a2, c2, rfl, _, _⟩ := h2.len
  have e1 : (p.map bv).length = p.length := List.length_map ..
  have e2 : (q.map bv).length = q.length := List.length_map ..
  rw [e1] at h1 ⊢
  rw [e2] at h2 ⊢
  by_cases g1 : (4194304 : Int) < (p.length : Int)
  · have d1 : decide ((4194304 : Int) < (p.length : Int)) = true := decide_eq_true g1
    clear h1 h2 hp hq e1 e2 hT
    generalize p.length = L1 at *
    generalize q.length = L2 at *
    go_enter Tryd.func3, Tryd.ntmps3
    go_wp2_with fail
    go_ret
    exact ⟨rfl, Below.refl _ _⟩
  have d1 : decide ((4194304 : Int) < (p.length : Int)) = false := decide_eq_false g1
  by_cases g2 : (6000000 : Int) < (q.length : Int)
  · have d2 : decide ((6000000 : Int) < (q.length : Int)) = true := decide_eq_true g2
    clear h1 h2 hp hq e1 e2 hT
    generalize p.length = L1 at *
    generalize q.length = L2 at *
    go_enter Tryd.func3, Tryd.ntmps3
    go_wp2_with fail
    go_ret
    exact ⟨rfl, Below.refl _ _⟩
  have d2 : decide ((6000000 : Int) < (q.length : Int)) = false := decide_eq_false g2
  have SC := scan_enc (p := p) (by omega) q
  have HEL := CrcM.enc_len p
  have HFB : ∀ b ∈ CrcM.enc p ++ q, b < 256 := fun b hb => by
    rcases List.mem_append.1 hb with h | h
    · exact CrcM.enc_lt hp b h
    · exact hq b h
  have HFL : (CrcM.enc p ++ q).length = p.length + 8 + q.length := by rw [List.length_append, HEL]
  have AG := CrcM.scan_again _ (CrcM.enc p ++ q) (Nat.le_refl _)
  have EN := (CrcM.scan_end _ (CrcM.enc p ++ q) (Nat.le_refl _)).1
  have SMALL := scan_small _ (CrcM.enc p ++ q) (Nat.le_refl _)
  have CNT := scan_count (CrcM.enc p ++ q)
  have C0 : Hid (Calls Tryd.prog 10 #[.slice a1 p.length c1] w (NewB w p)) := copied_at p _ w (by omega) h1
  have ENC : Hid (∀ w' v, Below w.heap.size w w' → RdB w' v p → Calls Tryd.prog 9 #[v] w' (NewT w' (CrcM.enc p))) := fun w' v hb hr => encode_at p v w' hp (by omega) hr (hT.below hb)
  have PLS : Hid (∀ w' v, Below w.heap.size w w' → RdB w' v (CrcM.enc p) → Calls Tryd.prog 11 #[v, .slice a2 q.length c2] w' (NewB w' (CrcM.enc p ++ q))) := fun w' v hb hr => plus_at _ _ _ _ w' (by omega) (by omega) hr (Rd.later h2 hb)
  have SCN : Hid (∀ w' v, Below w.heap.size w w' → RdB w' v (CrcM.enc p ++ q) → Calls Tryd.prog 12 #[v] w' (ScanIs (CrcM.enc p ++ q) w')) := fun w' v hb hr => scan_at _ v w' HFB (by omega) hr (hT.below hb)
  have SCN2 : Hid (∀ w' v, Below w.heap.size w w' → RdB w' v ((CrcM.enc p ++ q).take (CrcM.scan (CrcM.enc p ++ q)).2.1) → Calls Tryd.prog 12 #[v] w' (ScanIs ((CrcM.enc p ++ q).take (CrcM.scan (CrcM.enc p ++ q)).2.1) w')) := fun w' v hb hr => scan_at _ v w' (fun b hb' => HFB b (List.mem_of_mem_take hb')) (by rw [List.length_take]; omega) hr (hT.below hb)
  have SAM : Hid (∀ w' v, Below w.heap.size w w' → RdB w' v p → Calls Tryd.prog 13 #[v, .slice a1 p.length c1] w' fun e w'' => e = .returned (.bool true) ∧ ∃ n, w'' = w'.drewN n) := fun w' v hb hr => (same_at p p _ _ w' (by omega) hr (Rd.later h1 hb)).mono fun e w'' ⟨k1, k2⟩ => ⟨by rw [k1, decide_eq_true rfl], k2⟩
  unfold ScanIs at SCN SCN2
  rw [AG] at SCN2
  simp only at SCN2
  rw [SC] at SCN SCN2 EN SMALL CNT
  simp only at SCN SCN2 EN SMALL CNT
  generalize hAA : (CrcM.scan q).1 = A at *
  generalize (CrcM.scan q).2.1 = B at *
  generalize (CrcM.scan q).2.2 = T at *
  have lA : (p :: A).length = A.length + 1 := List.length_cons ..
  rw [lA] at SCN SCN2 CNT
  have HSM : Hid (∀ x ∈ p :: A, x.length ≤ 1000000000000) := fun x hx => by have := SMALL x hx; omega
  have HLE : Hid (CrcM.enc p ++ q = CrcM.enc p ++ q ∧ (CrcM.enc p ++ q).length = p.length + 8 + q.length) := ⟨rfl, HFL⟩
  have hCN : A.length + 1 ≤ 1000000000 := by omega
  have hEN : p.length + 8 + B ≤ p.length + 8 + q.length := by omega
  have HEL' : Hid ((CrcM.enc p).length = p.length + 8) := HEL
  clear SC AG SMALL CNT hAA lA h1 h2 hp hq e1 e2 hT HFB HEL EN
  generalize CrcM.enc p ++ q = F at *
  generalize hEP : CrcM.enc p = EP at *
  generalize hL1 : p.length = L1 at *
  generalize hL2 : q.length = L2 at *
  have HL1 : Hid (p.length = L1) := hL1
  clear hL1 hL2 hEP
  have n1 : (((L1 + 8 : Nat) : Int) != (L1 : Int) + 8) = false := by simp
  have HNA : Hid (A.length + 1 = (p :: A).length) := rfl
  have hle1 : L1 + 8 ≤ L1 + 8 + B := by omega
  have hNA0 : 0 < A.length + 1 := by omega
  have big1 : L1 + 8 + L2 ≤ 1000000000 := by omega
  generalize L1 + 8 + B = EB at *
  generalize L1 + 8 + L2 = FL at *
  generalize L1 + 8 = M1 at *
  generalize A.length + 1 = NA at *
  have n2 : ((NA : Int) == 0) = false := beq_eq_false_iff_ne.2 (by omega)
  have n3 : decide ((EB : Int) < (M1 : Int)) = false := decide_eq_false (by omega)
  have n4 : decide ((FL : Int) < (EB : Int)) = false := decide_eq_false (by omega)
  have n5 : ((EB : Int) != (EB : Int)) = false := by simp
  go_enter Tryd.func3, Tryd.ntmps3
  go_wp2_with fail
  refine C0.out.mono ?_
  rintro e w1 ⟨v1, rfl, r1, b1⟩
  have R1 : Hid (RdB w1 v1 p) := RowV.rd r1
  have B1 : Hid (Below w.heap.size w w1) := b1
  clear r1 b1 C0
  go_wp2_with fail
  refine (ENC.out _ _ B1.out R1.out).mono ?_
  rintro e w2 ⟨a3, c3, rfl, r2, b2⟩
  have R2 : Hid (RdB w2 (.slice a3 EP.length c3) EP) := RowV.rd r2
  have B2 : Hid (Below w.heap.size w w2) := below_trans B1.out b2
  rw [HEL'.out] at R2 ⊢
  clear r2 b2 B1 R1
  go_wp2_with fail
  refine (PLS.out _ _ B2.out R2.out).mono ?_
  rintro e w3 ⟨v3, rfl, r3, b3⟩
  have R3 : Hid (RdB w3 v3 F) := RowV.rd r3
  have B3 : Hid (Below w.heap.size w w3) := below_trans B2.out b3
  obtain ⟨a4, c4, rfl, hc4, _⟩ := R3.out.len
  rw [List.length_map, HLE.out.2] at R3 hc4 ⊢
  have HC4 : FL ≤ c4 := hc4
  clear r3 b3 B2 R2 ENC PLS hc4
  go_wp2_with fail
  refine (SCN.out _ _ B3.out R3.out).mono ?_
  rintro e w4 ⟨a5, c5, rfl, r4, b4⟩
  have B4 : Hid (Below w.heap.size w w4) := below_trans B3.out b4
  have R4 : Hid (RdB w4 (.slice a4 (FL) c4) F) := Rd.later R3.out b4
  have X4 : Hid (RdR w4 (.slice a5 (NA) c5) (p :: A)) := r4.rd
  clear r4 b4 B3 R3 SCN
  obtain ⟨hx5, hl5, H5⟩ := X4.out.at
  clear hx5
  obtain ⟨g5, o5, a6, c6, rfl, k5, r5⟩ := H5 0 (by omega)
  have P5 : Hid (RdB w4 (.slice a6 L1 c6) p) := by
    have := r5
    simp only [List.getD_cons_zero] at this
    rw [HL1.out] at this; exact this
  have k5' : w4.cell? ⟨g5, o5, none⟩ = some (.slice a6 L1 c6) := by
    have := k5
    simp only [List.getD_cons_zero, Nat.add_zero] at this
    rw [HL1.out] at this; exact this
  clear H5 r5 k5
  go_wp2_with fail
  refine (SAM.out _ _ B4.out P5.out).mono ?_
  rintro e w5 ⟨rfl, n5', rfl⟩
  have R5 : Hid (RdB (w4.drewN n5') (.slice a4 (EB) c4) (F.take (EB))) := by
    have := Rd.cut (k := EB) (Rd.drewN R4.out n5') (by omega)
    rw [← List.map_take] at this; exact this
  clear P5 k5' R4 SAM
  go_wp2_with fail
  refine (SCN2.out _ _ (below_drewN B4.out n5') R5.out).mono ?_
  rintro e w6 ⟨a7, c7, rfl, r6, b6⟩
  have B6 : Hid (Below w.heap.size w w6) := below_trans (below_drewN B4.out n5') b6
  have X6 : Hid (RdR w6 (.slice (some ⟨g5, o5, none⟩) (NA) c5) (p :: A)) := RdR.later (RdR.drewN X4.out n5') b6
  have Y6 : Hid (RdR w6 (.slice a7 (NA) c7) (p :: A)) := r6.rd
  have AL : Hid (Calls Tryd.prog 14 #[.slice (some ⟨g5, o5, none⟩) (NA) c5, .slice a7 (NA) c7] w6 fun e w' => e = .returned (.bool true) ∧ ∃ n, w' = w6.drewN n) := alike_at (p :: A) _ _ w6 (by rw [← HNA.out]; omega) HSM.out X6.out Y6.out
  clear r6 b6 X4 B4 R5 X6 Y6 SCN2
  go_wp2_with fail
  refine AL.out.mono ?_
  rintro e w7 ⟨rfl, n7, rfl⟩
  go_wp2_with fail
  go_ret
  exact ⟨rfl, below_drewN B6.out n7⟩
end Go.Proofs.YtbalmfghihgmgacDoor
