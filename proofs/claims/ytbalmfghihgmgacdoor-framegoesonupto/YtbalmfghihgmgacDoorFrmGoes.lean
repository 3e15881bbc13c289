/-
  Ours: the walk of FrameGoesOn.
-/
import Derived.Test.YtbalmfghihgmgacDoorFrmTorn
import Derived.Test.YtbalmfghihgmgacDoorFrmCut
namespace Go.Proofs.YtbalmfghihgmgacDoor
open Go.RowKit

/-- The rows from a place on, as the language slices them. -/
theorem RdR.from {w : World} {ao : Option Addr} {n cap A : Nat} {cs : List (List Nat)} (h : RdR w (.slice ao n cap) cs) (hA : A ≤ n) : RdR w (.slice (if A = cap then ao else ao.map (fun x => x.add A)) (n - A) (cap - A)) (cs.drop A) := by
  obtain ⟨_, hc, _⟩ := h.at
  by_cases hcc : A = cap
  · rw [if_pos hcc]
    exact h.tail hA (fun g o e hk => by omega)
  · rw [if_neg hcc]
    exact h.tail hA (fun g o e hk => by rw [e]; simp [Addr.add_lit])

set_option maxRecDepth 100000 in
set_option maxHeartbeats 2000000 in
theorem goes_any (cs : List (List Nat)) (q : List Nat) (v vq : Value) (w : World) (hs : Sml cs) (h : RdR w v cs) (hq : ∀ b ∈ q, b < 256) (hl : q.length ≤ 1048576) (h2 : RdB w vq q) (hT : TabS w) :
    Calls Tryd.prog 7 #[v, vq] w fun e w' => e = .returned (.bool true) ∧ Below w.heap.size w w' := by
  obtain ⟨ao, cap, rfl, hcap⟩ := h.len
  obtain ⟨aq, cq, rfl, _, _⟩ := h2.len
  have e2 : (q.map bv).length = q.length := List.length_map ..
  rw [e2] at h2 ⊢
  by_cases hz : CrcM.sizeL cs ≤ 6000000
  · have hlen : ∀ p ∈ cs, p.length ≤ 4194304 := fun p hp => by have := hs.len p hp; omega
    have HJL : (CrcM.join cs).length = CrcM.sizeL cs := by unfold CrcM.sizeL; rfl
    have SJ := CrcM.scan_join cs hlen q
    rw [HJL] at SJ
    have CNT := scan_count q
    have SML := scan_small _ q (Nat.le_refl _)
    have EN := (CrcM.scan_end _ q (Nat.le_refl _)).1
    have FIT : Hid (Calls Tryd.prog 17 #[.slice ao cs.length cap] w fun e w' => e = .returned (.bool true) ∧ w' = w) := (fits_at cs _ w hs h).mono fun e w' ⟨h1, h2⟩ => ⟨by rw [h1, decide_eq_true hz], h2⟩
    have TWN : Hid (Calls Tryd.prog 19 #[.slice ao cs.length cap] w fun e w' => ∃ a c, e = .returned (.slice a cs.length c) ∧ RowsV w.heap.size w' (.slice a cs.length c) cs ∧ Below w.heap.size w w') := twin_at cs _ w hs h
    have JN : Hid (∀ w' v, Below w.heap.size w w' → RdR w' v cs → Calls Tryd.prog 18 #[v] w' (NewT w' (CrcM.join cs))) := fun w' v hb hr => join_at cs v w' hs (by omega) hr (hT.below hb)
    have SZ : Hid (∀ w', Below w.heap.size w w' → Calls Tryd.prog 20 #[.slice ao cs.length cap] w' fun e w'' => e = .returned (.int .i64 ((CrcM.sizeL cs : Nat) : Int)) ∧ w'' = w') := fun w' hb => size_at cs _ w' hs (h.later hb)
    have PLS : Hid (∀ w' v, Below w.heap.size w w' → RdB w' v (CrcM.join cs) → Calls Tryd.prog 11 #[v, .slice aq q.length cq] w' (NewB w' (CrcM.join cs ++ q))) := fun w' v hb hr => plus_at _ _ _ _ w' (by omega) (by omega) hr (Rd.later h2 hb)
    have CPY : Hid (∀ w', Below w.heap.size w w' → Calls Tryd.prog 10 #[.slice aq q.length cq] w' (NewB w' q)) := fun w' hb => copied_at q _ w' (by omega) (Rd.later h2 hb)
    have SC1 : Hid (∀ w' v, Below w.heap.size w w' → RdB w' v (CrcM.join cs ++ q) → Calls Tryd.prog 12 #[v] w' (ScanIs (CrcM.join cs ++ q) w')) := fun w' v hb hr => scan_at _ v w' (fun b hb' => by
      rcases List.mem_append.1 hb' with k | k
      · exact join_lt hs.byt b k
      · exact hq b k) (by rw [List.length_append]; omega) hr (hT.below hb)
    have SC2 : Hid (∀ w' v, Below w.heap.size w w' → RdB w' v q → Calls Tryd.prog 12 #[v] w' (ScanIs q w')) := fun w' v hb hr => scan_at _ v w' hq (by omega) hr (hT.below hb)
    unfold ScanIs at SC1 SC2
    rw [SJ] at SC1
    simp only at SC1
    rw [List.length_append] at SC1
    generalize (CrcM.scan q).1 = A at *
    generalize (CrcM.scan q).2.1 = B at *
    generalize (CrcM.scan q).2.2 = T at *
    have hc := hs.cnt
    have AL1 : Hid (∀ w' va, RdR w' va ((cs ++ A).take cs.length) → Below w.heap.size w w' → Calls Tryd.prog 14 #[va, .slice ao cs.length cap] w' fun e w'' => e = .returned (.bool true) ∧ ∃ q, w'' = w'.drewN q) := fun w' va h1 hb => by
      rw [List.take_left] at h1
      exact alike_at cs va _ w' (by omega) (fun x hx => by have := hs.len x hx; omega) h1 (h.later hb)
    have AL2 : Hid (∀ w' va vb, RdR w' va ((cs ++ A).drop cs.length) → RdR w' vb A → Calls Tryd.prog 14 #[va, vb] w' fun e w'' => e = .returned (.bool true) ∧ ∃ q, w'' = w'.drewN q) := fun w' va vb h1 h2 => by
      rw [List.drop_left] at h1
      exact alike_at A va vb w' (by omega) (fun x hx => by have := SML x hx; omega) h1 h2
    have HJL' : Hid ((CrcM.join cs).length = CrcM.sizeL cs) := HJL
    have HCA : Hid ((cs ++ A).length = cs.length + A.length) := List.length_append ..
    clear SJ SML h hs hT h2 hq hlen HJL e2
    generalize CrcM.join cs ++ q = FQ at *
    generalize CrcM.join cs = F at *
    generalize CrcM.sizeL cs = SL at *
    generalize cs ++ A = CA at *
    generalize cs.length = L at *
    have hA6 : A.length ≤ 1048576 := by omega
    have HAL : Hid (∀ w' a c, RowsV w'.heap.size w' (.slice a A.length c) A → RowsV w'.heap.size w' (.slice a A.length c) A) := fun _ _ _ h => h
    generalize hALN : A.length = NA at *
    clear hALN HAL
    generalize q.length = LQ at *
    have d6 : decide ((6000000 : Int) < (LQ : Int)) = false := decide_eq_false (by omega)
    have n1 : ((SL : Int) != (SL : Int)) = false := by simp
    have n2 : (((L + NA : Nat) : Int) != (L : Int) + (NA : Int)) = false := by simp
    have n3 : (((SL + B : Nat) : Int) != (SL : Int) + (B : Int)) = false := by simp
    have n4 : ((T : Int) != (T : Int)) = false := by simp
    go_enter Tryd.func7, Tryd.ntmps7
    go_wp2_with fail
    refine FIT.out.mono ?_
    rintro e w0 ⟨rfl, rfl⟩
    go_wp2_with fail
    refine TWN.out.mono ?_
    rintro e w1 ⟨a1, c1, rfl, r1, b1⟩
    have R1 : Hid (RdR w1 (.slice a1 L c1) cs) := r1.rd
    have B1 : Hid (Below w0.heap.size w0 w1) := b1
    clear r1 b1 TWN FIT
    go_wp2_with fail
    refine (JN.out _ _ B1.out R1.out).mono ?_
    rintro e w2 ⟨a2, c2, rfl, r2, b2⟩
    have B2 : Hid (Below w0.heap.size w0 w2) := below_trans B1.out b2
    have R2 : Hid (RdB w2 (.slice a2 F.length c2) F) := RowV.rd r2
    rw [HJL'.out] at R2 ⊢
    clear r2 b2 B1 R1 JN
    go_wp2_with fail
    refine (SZ.out _ B2.out).mono ?_
    rintro e w3 ⟨rfl, rfl⟩
    go_wp2_with fail
    refine (PLS.out _ _ B2.out R2.out).mono ?_
    rintro e w4 ⟨v4, rfl, r4, b4⟩
    have B4 : Hid (Below w0.heap.size w0 w4) := below_trans B2.out b4
    have R4 : Hid (RdB w4 v4 FQ) := RowV.rd r4
    clear r4 b4 B2 R2 PLS SZ
    go_wp2_with fail
    refine (SC1.out _ _ B4.out R4.out).mono ?_
    rintro e w5 ⟨a5, c5, rfl, r5, b5⟩
    have B5 : Hid (Below w0.heap.size w0 w5) := below_trans B4.out b5
    have X5 : Hid (RdR w5 (.slice a5 (L + NA) c5) CA) := r5.rd
    obtain ⟨hx5, hc5, _⟩ := X5.out.at
    clear r5 b5 B4 R4 SC1 hx5
    go_wp2_with fail
    refine (CPY.out _ B5.out).mono ?_
    rintro e w6 ⟨v6, rfl, r6, b6⟩
    have B6 : Hid (Below w0.heap.size w0 w6) := below_trans B5.out b6
    have R6 : Hid (RdB w6 v6 q) := RowV.rd r6
    have X6 : Hid (RdR w6 (.slice a5 (L + NA) c5) CA) := X5.out.later b6
    clear r6 b6 B5 X5 CPY
    go_wp2_with fail
    refine (SC2.out _ _ B6.out R6.out).mono ?_
    rintro e w7 ⟨a7, c7, rfl, r7, b7⟩
    have B7 : Hid (Below w0.heap.size w0 w7) := below_trans B6.out b7
    have X7 : Hid (RdR w7 (.slice a5 (L + NA) c5) CA) := X6.out.later b7
    have Y7 : Hid (RdR w7 (.slice a7 NA c7) A) := r7.rd
    have C7 : Hid (RdR w7 (.slice a5 L c5) (CA.take L)) := X7.out.cut (by omega)
    clear r7 b7 B6 X6 R6 SC2
    have T7 : Hid (RdR w7 (.slice (if L = c5 then a5 else a5.map (fun x => x.add L)) (L + NA - L) (c5 - L)) (CA.drop L)) := X7.out.from (by omega)
    by_cases hcc : L = c5
    · rw [if_pos hcc] at T7
      subst hcc
      obtain rfl : NA = 0 := by omega
      rw [show L + 0 - L = 0 by omega, Nat.sub_self] at T7
      go_wp2_with fail
      refine (AL1.out _ _ C7.out B7.out).mono ?_
      rintro e w8 ⟨rfl, n8, rfl⟩
      go_wp2_with fail
      refine (AL2.out _ _ _ (T7.out.drewN n8) (Y7.out.drewN n8)).mono ?_
      rintro e w9 ⟨rfl, n9, rfl⟩
      go_wp2_with fail
      go_ret
      exact ⟨rfl, below_drewN B7.out (n8 + n9)⟩
    · rw [if_neg hcc, show L + NA - L = NA by omega] at T7
      go_wp2_with fail
      refine (AL1.out _ _ C7.out B7.out).mono ?_
      rintro e w8 ⟨rfl, n8, rfl⟩
      go_wp2_with fail
      refine (AL2.out _ _ _ (T7.out.drewN n8) (Y7.out.drewN n8)).mono ?_
      rintro e w9 ⟨rfl, n9, rfl⟩
      go_wp2_with fail
      go_ret
      exact ⟨rfl, below_drewN B7.out (n8 + n9)⟩
  · have FIT : Hid (Calls Tryd.prog 17 #[.slice ao cs.length cap] w fun e w' => e = .returned (.bool false) ∧ w' = w) := (fits_at cs _ w hs h).mono fun e w' ⟨h1, h2⟩ => ⟨by rw [h1, decide_eq_false hz], h2⟩
    clear h hT hs h2 hq e2
    generalize cs.length = L at *
    generalize q.length = LQ at *
    go_enter Tryd.func7, Tryd.ntmps7
    go_wp2_with fail
    refine FIT.out.mono ?_
    rintro e w0 ⟨rfl, rfl⟩
    go_wp2_with fail
    go_ret
    exact ⟨rfl, Below.refl _ _⟩
end Go.Proofs.YtbalmfghihgmgacDoor
