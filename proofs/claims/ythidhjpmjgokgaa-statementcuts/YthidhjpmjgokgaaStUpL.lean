/-
  Ours: StatementUptos walked.
-/
import Derived.Test.YthidhjpmjgokgaaStRUp
import Derived.Test.YthidhjpmjgokgaaStSam
import Derived.Test.YthidhjpmjgokgaaStCop
import Derived.Test.YthidhjpmjgokgaaLedAddM
namespace Go.Proofs.Ythidhjpmjgokgaa
open Go.RowKit LedM StM

theorem stored_own {w w2 w3 : World} {o : Obj} {v : Value} {ms : List (List Int)} (r : RowMo w.heap.size w2 v ms) (b : Below w.heap.size w w2) (g3 : (w2.alloc o).grownBy w3 (some w2.heap.size)) : RowMo w.heap.size w3 v ms ∧ Below w.heap.size w w3 :=
  ⟨(r.later (below_alloc w2 _)).kept g3 (fun q hq e => by cases e; have := r.lt hq; omega), (b.alloc b.size _).grown g3 (by have := b.size; simp; omega) (fun q e => by cases e; exact b.size)⟩

set_option maxRecDepth 20000 in
set_option maxHeartbeats 4000000 in
theorem uptos_any (ms : List (List Int)) (d : Int) (v : Value) (w : World) (h : RdMo w v ms) (ok : ∀ m ∈ ms, MoOk m) : Calls Try.prog 3 #[v, .int .i64 d] w fun e w' => e = .returned (.bool true) ∧ Below w.heap.size w w' := by
  obtain ⟨L, hL⟩ : ∃ L, ms.length = L := ⟨_, rfl⟩
  have RD : Hid (∀ w', Below w.heap.size w w' → RdMo w' v ms) := fun w' hb => h.later hb
  have HL : Hid (ms.length = L) := hL
  obtain ⟨ao, cap, e, hcap, hno⟩ := h.len
  subst e
  rw [hL] at hcap RD ⊢
  clear h hL
  by_cases hn : (L : Int) > 4000
  · clear RD HL
    go_enter Try.func3, Try.ntmps3
    go_wp2_with fail
    go_ret
    exact ⟨rfl, Below.refl _ _⟩
  have hl : ms.length ≤ 4000 := by rw [HL.out]; omega
  have t14 : T14 ms := T14.of_ok ok
  have CP : Hid (∀ w', Below w.heap.size w w' → Calls Try.prog 5 #[.slice ao L cap] w' (CopAns ms w')) := fun w' hb => copied_at ms _ w' (RD.out w' hb) t14 (by omega)
  have UP : Hid (∀ v' w', RdMo w' v' ms → Calls Try.prog 6 #[v', .int .i64 d] w' (UptAns ms d w')) := fun v' w' hr => upto_at ms d v' w' hr ok (by omega)
  have RU : Hid (∀ v' w', RdMo w' v' ms → Calls Try.prog 7 #[v', .int .i64 d] w' (UptAns ms d w')) := fun v' w' hr => rupto_at ms d v' w' hr ok (by omega)
  have t15 : T14 (ms ++ [mkM]) := t14.app (T14.one rfl)
  have SM : Hid (∀ va vb w', RdMo w' va (ms ++ [mkM]) → RdMo w' vb (ms ++ [mkM]) → Calls Try.prog 8 #[va, vb] w' fun e w2 => e = .returned (.bool true) ∧ ∃ n, w2 = w'.drewN n) := fun va vb w' ha hb => sameM_yes _ va vb w' (by rw [List.length_append, List.length_singleton]; omega) (fun m hm => by
    rcases List.mem_append.1 hm with hm | hm
    · exact ok m hm
    · rw [List.mem_singleton.1 hm]; exact mk_ok) ha hb
  have BK : Hid (BkOk (bookL (sumB (upl ms d)))) := bookL_ok (sumB_len _)
  have TM : Hid ((ms ++ [mkM]).take L = ms) := by show _ = _; rw [List.take_append_of_le_length (by rw [HL.out]; exact Nat.le_refl _), List.take_of_length_le (by rw [HL.out]; exact Nat.le_refl _)]
  have T15 : Hid (T14 (ms ++ [mkM])) := t15
  unfold UptAns at UP RU
  generalize bookL (sumB (upl ms d)) = B at *
  generalize fitsL (sumB (upl ms d)) = K at *
  have BL : Hid (B.length = 12) := BK.out.1
  clear hl t14 t15 ok
  go_enter Try.func3, Try.ntmps3
  go_wp2_with fail
  refine (CP.out w (Below.refl _ _)).mono ?_
  rintro e w1 ⟨g1, c1, rfl, r1, b1⟩
  have n1 := r1.rd T15.out
  have R1 : Hid (RowMo w.heap.size w1 (.slice (some ⟨g1, 0, none⟩) (L + 1) c1) (ms ++ [mkM]) ∧ Below w.heap.size w w1) := by rw [HL.out] at r1; exact ⟨r1, b1⟩
  have N1 : Hid (RdMo w1 (.slice (some ⟨g1, 0, none⟩) L c1) ms) := by
    have := n1.take (k := L) (by rw [HL.out]; omega)
    rwa [TM.out] at this
  have hc1 : L + 1 ≤ c1 := by
    obtain ⟨_, _, e1, hc1, _⟩ := n1.len
    injection e1 with _ _ e1
    subst e1
    rwa [List.length_append, List.length_singleton, HL.out] at hc1
  rw [HL.out]
  clear n1 r1 b1
  have UA : Hid (Calls _ _ _ _ _) := UP.out _ _ N1.out
  clear UP
  go_wp2_with fail
  refine UA.out.mono ?_
  rintro e w2 ⟨rfl, b2⟩
  have S2 : Hid (RowMo w.heap.size w2 (.slice (some ⟨g1, 0, none⟩) (L + 1) c1) (ms ++ [mkM]) ∧ Below w.heap.size w w2) := ⟨R1.out.1.later b2, below_trans R1.out.2 b2⟩
  clear UA b2 R1 N1
  go_wp2_with (refine step_store rfl 26 _ _ rfl w2.heap.size 0 26 (bkL zeroL) (bkL B) rfl rfl (Blk.new _ (bkL zeroL) w2) (by rw [bkL_len, BL.out]; exact Nat.le_refl _) (infoBl BL.out) (bkL_one _) ?_; intro w3 nb3 g3; rw [store_all (by rw [bkL_len, BL.out]; rfl)] at nb3; have S3 : Hid ((RowMo w.heap.size w3 (.slice (some ⟨g1, 0, none⟩) (L + 1) c1) (ms ++ [mkM]) ∧ Below w.heap.size w w3) ∧ Blk w2.heap.size 26 (bkL B) w3) := ⟨stored_own S2.out.1 S2.out.2 g3, nb3⟩; clear nb3 g3)
  have RA : Hid (Calls _ _ _ _ _) := RU.out _ w3 (RD.out w3 S3.out.1.2)
  clear RU S2
  go_wp2_with fail
  refine RA.out.mono ?_
  rintro e w4 ⟨rfl, b4⟩
  have S4 : Hid (RowMo w.heap.size w4 (.slice (some ⟨g1, 0, none⟩) (L + 1) c1) (ms ++ [mkM]) ∧ Below w.heap.size w w4) := ⟨S3.out.1.1.later b4, below_trans S3.out.1.2 b4⟩
  have Q4 : Hid (Blk w2.heap.size 26 (bkL B) w4) := S3.out.2.below b4
  have q4 : w2.heap.size < w4.heap.size := Q4.out.lt
  clear RA b4 S3
  go_upto_region 6 with (refine step_store rfl 26 _ _ rfl w4.heap.size 0 26 (bkL zeroL) (bkL B) rfl rfl (Blk.new _ (bkL zeroL) w4) (by rw [bkL_len, BL.out]; exact Nat.le_refl _) (infoBl BL.out) (bkL_one _) ?_; intro w5 nb5 g5; rw [store_all (by rw [bkL_len, BL.out]; rfl)] at nb5; have S5 : Hid ((RowMo w.heap.size w5 (.slice (some ⟨g1, 0, none⟩) (L + 1) c1) (ms ++ [mkM]) ∧ Below w.heap.size w w5) ∧ Blk w4.heap.size 26 (bkL B) w5 ∧ Blk w2.heap.size 26 (bkL B) w5) := ⟨stored_own S4.out.1 S4.out.2 g5, nb5, (Q4.out.old _).grown g5 (fun e => by have := Option.some.inj e; omega)⟩; clear nb5 g5)
  have CA : Hid (Calls _ _ _ _ _) := CP.out w5 S5.out.1.2
  have EB : Hid (EqS 26 (bkL B)) := eqs_bk B BK.out
  have kk : (K == K) = true := by simp
  clear S4 Q4 CP RD
  go_wp2_with (first
    | (refine step_load rfl 26 _ rfl w2.heap.size 0 rfl (bkL B) _ S5.out.2.2.all Try.underlying26 rfl (infoBl BL.out) ?_)
    | (refine step_load rfl 26 _ rfl w4.heap.size 0 rfl (bkL B) _ S5.out.2.1.all Try.underlying26 rfl (infoBl BL.out) ?_)
    | (refine step_eqlS rfl 26 _ _ _ rfl (bkL B) rfl rfl (by kernel_rfl) EB.out ?_))
  refine CA.out.mono ?_
  rintro e w6 ⟨g6, c6, rfl, r6, b6⟩
  have SA : Hid (Calls _ _ _ _ _) := SM.out _ _ w6 ((S5.out.1.1.later b6).rd T15.out) (r6.rd T15.out)
  have W6 : Hid (Below w.heap.size w w6) := below_trans S5.out.1.2 b6
  rw [HL.out] at SA ⊢
  clear r6 b6 S5 CA SM
  go_wp2_with fail
  refine SA.out.mono ?_
  rintro e w7 ⟨rfl, n, rfl⟩
  clear SA
  go_wp2_with fail
  go_ret
  exact ⟨rfl, below_drewN W6.out n⟩
end Go.Proofs.Ythidhjpmjgokgaa
