/-
  Ours: the reference's ReadLetter: the walk. (gen_rprl.py)
-/
import Derived.Test.YtpkgdkgbbbbaoaaDoorRpRrd
namespace Go.Proofs.YtpkgdkgbbbbaoaaDoor
open Go.RowKit Go.Lib CalM RpM
def cA (x0 x4 x5 x6 D k : Int) : RpM.Nt := ⟨x0, x4, k, D, wrap64 (wrap64 (x5 * 100) + x6), false⟩
def cB (x0 x4 x5 x6 D k : Int) : RpM.Nt := ⟨x0, x6, k, D, wrap64 (wrap64 (x4 * 100) + x5), false⟩
theorem cand_is {l : List UInt8} {x0 x1 x2 x3 x4 x5 x6 : Int} (hR : runsL l = [x0, x1, x2, x3, x4, x5, x6]) {m : RpM.Nt} (hm : may m) (om : m.Ok) (h : letN m = l) : CalM.Ok x1 x2 x3 ∧ ({ m with ack := false } = cA x0 x4 x5 x6 (dA x1 x2 + x3) m.kind ∨ { m with ack := false } = cB x0 x4 x5 x6 (dA x1 x2 + x3) m.kind) := by
  obtain ⟨y0, y1, y2, y3, y4, y5, y6, e, ok, ed, ei, ec⟩ := cand_of hm om h
  rw [hR] at e
  simp only [List.cons.injEq, and_true] at e
  obtain ⟨rfl, rfl, rfl, rfl, rfl, rfl, rfl⟩ := e
  refine ⟨ok, ?_⟩
  rcases ec with ⟨e4, e5⟩ | ⟨e4, e5⟩
  · left
    unfold cA
    rw [ed, ei, e4, e5]
  · right
    unfold cB
    rw [ed, ei, e4, e5]
theorem ack_of {l : List UInt8} {m c : RpM.Nt} (e : ({ m with ack := false } : RpM.Nt) = c) (hm : may m) (h : letN m = l) : may c ∧ letN c = l := by
  subst e
  refine ⟨?_, ?_⟩
  · unfold may at hm ⊢
    exact hm
  · rw [← h]
    unfold letN
    rfl
/-- What the loop over the kinds keeps. -/
structure RLS (l : List UInt8) (w : World) (g o : Nat) (xs : List Int) (k : Int) (wr : World) : Prop where
  b : Below w.heap.size w wr
  r : Blk w.heap.size 23 (ntC Nt.zero).toList wr
  c : ∀ i x, xs[i]? = some x → wr.cell? ⟨g, o + i, none⟩ = some (.int .i64 x)
  n : ∀ m : RpM.Nt, may m → m.Ok → m.kind < k → letN m ≠ l
theorem RLS.later {l : List UInt8} {w : World} {g o : Nat} {xs : List Int} {k : Int} {w1 w2 : World} (h : RLS l w g o xs k w1) (b : Below w1.heap.size w1 w2) : RLS l w g o xs k w2 :=
  ⟨below_trans h.b b, h.r.below b, fun i x hx => (b.cell (World.block_lt_of_cell? _ _ (h.c i x hx))).trans (h.c i x hx), h.n⟩
set_option maxRecDepth 100000 in
set_option maxHeartbeats 8000000 in
theorem rreadLetter_at (l : List UInt8) (hl : l.length ≤ 1048576) (w : World) (hw : TabW w) : Calls Tryd.prog 8 #[.string ⟨l.toArray⟩] w (RdPost l w) := by
  have HW : Hid (TabW w) := hw
  have RU : Hid (∀ w, Calls Tryd.prog 17 #[.string ⟨l.toArray⟩] w fun e w' => ∃ v, e = .returned v ∧ RowV 3 w.heap.size w' v ((runsL l).map iv) ∧ Below w.heap.size w w') := fun w => runs_at l hl w
  have NU : Hid (∀ y m k w, Calls Tryd.prog 18 #[.agg #[.int .i64 y, .int .i64 m, .int .i64 k]] w fun e w' => e = .returned (.tuple #[.int .i64 (if CalM.Ok y m k then dA y m + k else 0), .bool (decide (CalM.Ok y m k))]) ∧ Below w.heap.size w w') := fun y m k w => rnumber_at y m k w
  have TR : Hid (∀ n : RpM.Nt, n.Ok → ∀ w, TabW w → Calls Tryd.prog 19 #[ntV n, .string ⟨l.toArray⟩] w fun e w' => e = .returned (.bool (decide (may n ∧ letN n = l))) ∧ Below w.heap.size w w') := fun n on w hw => tried_at n on l w hw
  have RO : Hid (∀ x ∈ runsL l, RpM.i64 x) := by
    have h := (rs_ok (l ++ [32]) (l ++ [32]).length (Nat.le_refl _)).out
    rw [List.take_length] at h
    exact h
  have CD : Hid (∀ m : RpM.Nt, may m → m.Ok → letN m = l → (runsL l).length = 7) := fun m hm om h => by
    obtain ⟨x0, x1, x2, x3, x4, x5, x6, e, _⟩ := cand_of hm om h
    rw [e]
    rfl
  have CI : Hid (∀ x0 x1 x2 x3 x4 x5 x6 : Int, runsL l = [x0, x1, x2, x3, x4, x5, x6] → ∀ m : RpM.Nt, may m → m.Ok → letN m = l → CalM.Ok x1 x2 x3 ∧ ({ m with ack := false } = cA x0 x4 x5 x6 (dA x1 x2 + x3) m.kind ∨ { m with ack := false } = cB x0 x4 x5 x6 (dA x1 x2 + x3) m.kind)) := fun x0 x1 x2 x3 x4 x5 x6 e m hm om h => cand_is e hm om h
  have Z0 : Hid (Blk w.heap.size 23 (ntC Nt.zero).toList (w.alloc (.cells #[.int .i64 0, .int .i64 0, .int .i64 0, .int .i64 0, .int .i64 0, .bool false] 23)) ∧ Below w.heap.size w (w.alloc (.cells #[.int .i64 0, .int .i64 0, .int .i64 0, .int .i64 0, .int .i64 0, .bool false] 23))) := ⟨Blk.new _ _ _, below_alloc _ _⟩
  generalize runsL l = R at *
  clear hw hl
  go_enter Tryd.func8, Tryd.ntmps8
  go_wp2_with fail
  refine (RU.out _).mono ?_
  rintro e w1 ⟨v, rfl, row, b1⟩
  have S1 : Hid (Below w.heap.size w w1 ∧ Blk w.heap.size 23 (ntC Nt.zero).toList w1) := ⟨below_trans Z0.out.2 b1, Z0.out.1.below b1⟩
  have hrd := RowV.rd row
  clear b1 Z0 row RU
  obtain ⟨ao, cap, rfl, hcap, hno, hcell⟩ := hrd
  rw [List.length_map] at *
  by_cases h7 : R.length = 7
  · obtain ⟨x0, x1, x2, x3, x4, x5, x6, hR⟩ : ∃ x0 x1 x2 x3 x4 x5 x6 : Int, R = [x0, x1, x2, x3, x4, x5, x6] := by
      match R, h7 with
      | [x0, x1, x2, x3, x4, x5, x6], _ => exact ⟨x0, x1, x2, x3, x4, x5, x6, rfl⟩
    subst hR
    obtain ⟨g, o, rfl, -, -⟩ := hcell 0 (by show 0 < 7; omega)
    have S2 : Hid (Below w.heap.size w w1 ∧ Blk w.heap.size 23 (ntC Nt.zero).toList w1 ∧ ∀ i x, ([x0, x1, x2, x3, x4, x5, x6] : List Int)[i]? = some x → w1.cell? ⟨g, o + i, none⟩ = some (.int .i64 x)) := by
      refine ⟨S1.out.1, S1.out.2, fun i x hx => ?_⟩
      obtain ⟨hi, he⟩ := List.getElem?_eq_some_iff.1 hx
      obtain ⟨g', o', e', _, hc⟩ := hcell i (by rw [List.length_map]; exact hi)
      cases e'
      rw [hc, List.getElem_map, he]
      rfl
    have c1 := S2.out.2.2 1 x1 rfl
    have c2 := S2.out.2.2 2 x2 rfl
    have c3 := S2.out.2.2 3 x3 rfl
    have CI2 := CI.out x0 x1 x2 x3 x4 x5 x6 rfl
    have CI : Hid (∀ m : RpM.Nt, may m → m.Ok → letN m = l → CalM.Ok x1 x2 x3 ∧ ({ m with ack := false } = cA x0 x4 x5 x6 (dA x1 x2 + x3) m.kind ∨ { m with ack := false } = cB x0 x4 x5 x6 (dA x1 x2 + x3) m.kind)) := CI2
    have RO2 : Hid (RpM.i64 x0 ∧ RpM.i64 x4 ∧ RpM.i64 x5 ∧ RpM.i64 x6) := ⟨RO.out x0 (by simp), RO.out x4 (by simp), RO.out x5 (by simp), RO.out x6 (by simp)⟩
    have NU2 : Hid (∀ w, Calls Tryd.prog 18 #[.agg #[.int .i64 x1, .int .i64 x2, .int .i64 x3]] w fun e w' => e = .returned (.tuple #[.int .i64 (if CalM.Ok x1 x2 x3 then dA x1 x2 + x3 else 0), .bool (decide (CalM.Ok x1 x2 x3))]) ∧ Below w.heap.size w w') := fun w => NU.out x1 x2 x3 w
    have S0 : Hid (Below w1.heap.size w1 w1 ∧ True) := ⟨Below.refl _ _, trivial⟩
    have hcap7 : 7 ≤ cap := hcap
    have hlen : ([x0, x1, x2, x3, x4, x5, x6] : List Int).length = 7 := rfl
    clear h7 hcell S1 CI2 CD RO NU hno hcap
    rw [hlen]
    clear hlen
    by_cases hok : CalM.Ok x1 x2 x3
    · rw [if_pos hok, decide_eq_true hok] at NU2
      have OK : Hid (CalM.Ok x1 x2 x3) := hok
      obtain ⟨D, hD⟩ : ∃ D, dA x1 x2 + x3 = D := ⟨_, rfl⟩
      have DR : Hid (RpM.i64 D) := by
        have := day_range hok
        rw [hD] at this
        exact ⟨by omega, by omega⟩
      rw [hD] at NU2 CI
      clear hok hD
      go_upto_region 4 with fail
      go_region_held3 (fun w' => Below w1.heap.size w1 w' ∧ w'.cell? ⟨g, o + 1, none⟩ = some (.int .i64 x1) ∧ w'.cell? ⟨g, o + 2, none⟩ = some (.int .i64 x2) ∧ w'.cell? ⟨g, o + 3, none⟩ = some (.int .i64 x3)) (first | assumption | exact ⟨Below.drew S0.out.1, c1, c2, c3⟩ | exact held3n hU (by assumption)) (first | (go_at_call 18; refine (NU2.out _).mono ?_; rintro e w2 ⟨rfl, hU⟩))
      rename_i hH
      have S3 : Hid (RLS l w g o [x0, x1, x2, x3, x4, x5, x6] 1 w2) := ⟨below_trans S2.out.1 hH.1, S2.out.2.1.below hH.1, fun i x hx => (hH.1.cell (World.block_lt_of_cell? _ _ (S2.out.2.2 i x hx))).trans (S2.out.2.2 i x hx), fun m hm _ hk h => by
        obtain ⟨_, _, h3, _⟩ := hm
        omega⟩
      clear hH hU c1 c2 c3 S0 S2 NU2
      go_wp2_with fail
      go_loopw [7] (fun vk wr => ∃ k : Nat, vk = .int .i64 (k : Int) ∧ 1 ≤ k ∧ k ≤ 10 ∧ Hid (RLS l w g o [x0, x1, x2, x3, x4, x5, x6] (k : Int) wr)) (fun vk _ => 10 - (Go.RowKit.intOf vk).toNat)
      case atStart => exact ⟨1, rfl, by omega, by omega, S3⟩
      case round =>
        obtain ⟨k, rfl, hk1, hk10, HR⟩ := hrel
        clear S3
        by_cases hk9 : (k : Int) ≤ 9
        · go_upto_region 10 with fail
          go_cut [8] from 33 to 78 (fun v8 wx => ∃ N8, v8 = .pointer (some ⟨N8, 0, none⟩) ∧ Hid (RLS l w g o [x0, x1, x2, x3, x4, x5, x6] (k : Int) wx ∧ Blk N8 23 (ntC (cA x0 x4 x5 x6 D (k : Int))).toList wx))
          case first =>
            have c0 : wr.cell? ⟨g, o, none⟩ = some (.int .i64 x0) := HR.out.c 0 x0 rfl
            have c4 := HR.out.c 4 x4 rfl
            have c5 := HR.out.c 5 x5 rfl
            have c6 := HR.out.c 6 x6 rfl
            have glt : g < wr.heap.size := World.block_lt_of_cell? _ _ c0
            go_region
            go_wp2_with fail
            go_meet
            case rel => exact ⟨_, rfl, HR.out.later (Below.drew (below_alloc _ _)), (Blk.new _ _ _ : Blk _ _ _ (wr.alloc (.cells (ntC (cA x0 x4 x5 x6 D (k : Int))) 23)))⟩
          case rest =>
           obtain ⟨N8, rfl, SA⟩ := hcut
           clear HR
           go_upto_region 11 with fail
           go_cut [9] from 33 to 78 (fun v9 wx => ∃ N9, v9 = .pointer (some ⟨N9, 0, none⟩) ∧ Hid (RLS l w g o [x0, x1, x2, x3, x4, x5, x6] (k : Int) wx ∧ Blk N8 23 (ntC (cA x0 x4 x5 x6 D (k : Int))).toList wx ∧ Blk N9 23 (ntC (cB x0 x4 x5 x6 D (k : Int))).toList wx))
           case first =>
            have c0 : wc.cell? ⟨g, o, none⟩ = some (.int .i64 x0) := SA.out.1.c 0 x0 rfl
            have c4 := SA.out.1.c 4 x4 rfl
            have c5 := SA.out.1.c 5 x5 rfl
            have c6 := SA.out.1.c 6 x6 rfl
            have glt : g < wc.heap.size := World.block_lt_of_cell? _ _ c0
            go_region
            go_wp2_with fail
            go_meet
            case rel => exact ⟨_, rfl, SA.out.1.later (Below.drew (below_alloc _ _)), SA.out.2.below (Below.drew (below_alloc _ _)), (Blk.new _ _ _ : Blk _ _ _ (wc.alloc (.cells (ntC (cB x0 x4 x5 x6 D (k : Int))) 23)))⟩
           case rest =>
            obtain ⟨N9, rfl, SB⟩ := hcut
            have OA : Hid ((cA x0 x4 x5 x6 D (k : Int)).Ok ∧ (cB x0 x4 x5 x6 D (k : Int)).Ok) := ⟨⟨RO2.out.1, RO2.out.2.1, ⟨by show _ ≤ (k : Int); omega, by show (k : Int) ≤ _; omega⟩, DR.out, wrap64_i64 _⟩, ⟨RO2.out.1, RO2.out.2.2.2, ⟨by show _ ≤ (k : Int); omega, by show (k : Int) ≤ _; omega⟩, DR.out, wrap64_i64 _⟩⟩
            have TA : Hid (∀ w, TabW w → Calls Tryd.prog 19 #[ntV (cA x0 x4 x5 x6 D (k : Int)), .string ⟨l.toArray⟩] w fun e w' => e = .returned (.bool (decide (may (cA x0 x4 x5 x6 D (k : Int)) ∧ letN (cA x0 x4 x5 x6 D (k : Int)) = l))) ∧ Below w.heap.size w w') := fun w hw => TR.out _ OA.out.1 w hw
            have TB : Hid (∀ w, TabW w → Calls Tryd.prog 19 #[ntV (cB x0 x4 x5 x6 D (k : Int)), .string ⟨l.toArray⟩] w fun e w' => e = .returned (.bool (decide (may (cB x0 x4 x5 x6 D (k : Int)) ∧ letN (cB x0 x4 x5 x6 D (k : Int)) = l))) ∧ Below w.heap.size w w') := fun w hw => TR.out _ OA.out.2 w hw
            have YA : Hid (may (cA x0 x4 x5 x6 D (k : Int)) ∧ letN (cA x0 x4 x5 x6 D (k : Int)) = l → RdL l (cA x0 x4 x5 x6 D (k : Int)) true) := fun h => ⟨fun _ => ⟨h.1, OA.out.1, rfl, h.2⟩, (fun e => by cases e)⟩
            have YB : Hid (may (cB x0 x4 x5 x6 D (k : Int)) ∧ letN (cB x0 x4 x5 x6 D (k : Int)) = l → RdL l (cB x0 x4 x5 x6 D (k : Int)) true) := fun h => ⟨fun _ => ⟨h.1, OA.out.2, rfl, h.2⟩, (fun e => by cases e)⟩
            have NX : Hid (¬ (may (cA x0 x4 x5 x6 D (k : Int)) ∧ letN (cA x0 x4 x5 x6 D (k : Int)) = l) → ¬ (may (cB x0 x4 x5 x6 D (k : Int)) ∧ letN (cB x0 x4 x5 x6 D (k : Int)) = l) → ∀ m : RpM.Nt, may m → m.Ok → m.kind < (k : Int) + 1 → letN m ≠ l) := fun hA hB m hm om hk h => by
              by_cases hki : m.kind < (k : Int)
              · exact SB.out.1.n m hm om hki h
              · have ek : m.kind = (k : Int) := by omega
                rcases (CI.out m hm om h).2 with e | e
                · have e2 : ({ m with ack := false } : RpM.Nt) = cA x0 x4 x5 x6 D (k : Int) := by rw [e, ek]
                  exact hA (ack_of e2 hm h)
                · have e2 : ({ m with ack := false } : RpM.Nt) = cB x0 x4 x5 x6 D (k : Int) := by rw [e, ek]
                  exact hB (ack_of e2 hm h)
            obtain ⟨bA, hbA⟩ : ∃ b, decide (may (cA x0 x4 x5 x6 D (k : Int)) ∧ letN (cA x0 x4 x5 x6 D (k : Int)) = l) = b := ⟨_, rfl⟩
            obtain ⟨bB, hbB⟩ : ∃ b, decide (may (cB x0 x4 x5 x6 D (k : Int)) ∧ letN (cB x0 x4 x5 x6 D (k : Int)) = l) = b := ⟨_, rfl⟩
            have YA2 : Hid (bA = true → RdL l (cA x0 x4 x5 x6 D (k : Int)) true) := fun h => YA.out (of_decide_eq_true (hbA.trans h))
            have YB2 : Hid (bB = true → RdL l (cB x0 x4 x5 x6 D (k : Int)) true) := fun h => YB.out (of_decide_eq_true (hbB.trans h))
            have NX2 : Hid (bA = false → bB = false → ∀ m : RpM.Nt, may m → m.Ok → m.kind < (k : Int) + 1 → letN m ≠ l) := fun hA hB => NX.out (of_decide_eq_false (hbA.trans hA)) (of_decide_eq_false (hbB.trans hB))
            rw [hbA] at TA
            rw [hbB] at TB
            clear SA OA YA YB NX hbA hbB
            simp only [cA, cB] at SB TA TB YA2 YB2
            have HW2 : Hid (TabW wc) := tab_below HW.out SB.out.1.b
            have n0 := SB.out.2.1.cell 0 _ rfl
            have n1 := SB.out.2.1.cell 1 _ rfl
            have n2 := SB.out.2.1.cell 2 _ rfl
            have n3 := SB.out.2.1.cell 3 _ rfl
            have n4 := SB.out.2.1.cell 4 _ rfl
            have n5 := SB.out.2.1.cell 5 _ rfl
            generalize wrap64 (wrap64 (x5 * 100) + x6) = aA at *
            generalize wrap64 (wrap64 (x4 * 100) + x5) = aB at *
            go_wp2_with fail
            refine (TA.out _ HW2.out).mono ?_
            rintro e w3 ⟨rfl, b3⟩
            have S3 : Hid (RLS l w g o [x0, x1, x2, x3, x4, x5, x6] (k : Int) w3 ∧ Blk N8 23 (ntC ⟨x0, x4, (k : Int), D, aA, false⟩).toList w3 ∧ Blk N9 23 (ntC ⟨x0, x6, (k : Int), D, aB, false⟩).toList w3) := ⟨SB.out.1.later b3, SB.out.2.1.below b3, SB.out.2.2.below b3⟩
            clear b3 n0 n1 n2 n3 n4 n5 SB HW2
            cases bA with
            | true =>
              have YS := YA2.out rfl
              go_wp2_with (first
                | (refine step_load rfl 23 _ rfl N8 0 rfl (ntC ⟨x0, x4, (k : Int), D, aA, false⟩).toList _ S3.out.2.1.all Tryd.underlying23 rfl (sizeNt _) ?_)
                | (refine step_store rfl 23 _ _ rfl w.heap.size 0 23 (ntC Nt.zero).toList (ntC ⟨x0, x4, (k : Int), D, aA, false⟩).toList rfl rfl S3.out.1.r (Nat.le_refl _) (sizeNt _) (oneNt _) ?_; intro w14 n14 g14))
              have S14 : Hid (Blk w.heap.size 23 (ntC ⟨x0, x4, (k : Int), D, aA, false⟩).toList w14 ∧ Below w.heap.size w w14) := ⟨n14, below_row S3.out.1.b g14 (Nat.le_refl _)⟩
              refine ret_blk_tmp rfl rfl w.heap.size 23 (ntC ⟨x0, x4, (k : Int), D, aA, false⟩).toList _ rfl S14.out.1 Tryd.underlying23 rfl (sizeNt _) ?_
              exact ⟨_, _, YS, rfl, S14.out.2⟩
            | false =>
              have HW3 : Hid (TabW w3) := tab_below HW.out S3.out.1.b
              have n0 := S3.out.2.2.cell 0 _ rfl
              have n1 := S3.out.2.2.cell 1 _ rfl
              have n2 := S3.out.2.2.cell 2 _ rfl
              have n3 := S3.out.2.2.cell 3 _ rfl
              have n4 := S3.out.2.2.cell 4 _ rfl
              have n5 := S3.out.2.2.cell 5 _ rfl
              go_wp2_with fail
              refine (TB.out _ HW3.out).mono ?_
              rintro e w4 ⟨rfl, b4⟩
              have S4 : Hid (RLS l w g o [x0, x1, x2, x3, x4, x5, x6] (k : Int) w4 ∧ Blk N9 23 (ntC ⟨x0, x6, (k : Int), D, aB, false⟩).toList w4) := ⟨S3.out.1.later b4, S3.out.2.2.below b4⟩
              clear b4 n0 n1 n2 n3 n4 n5 S3 HW3
              cases bB with
              | true =>
                have YS := YB2.out rfl
                go_wp2_with (first
                  | (refine step_load rfl 23 _ rfl N9 0 rfl (ntC ⟨x0, x6, (k : Int), D, aB, false⟩).toList _ S4.out.2.all Tryd.underlying23 rfl (sizeNt _) ?_)
                  | (refine step_store rfl 23 _ _ rfl w.heap.size 0 23 (ntC Nt.zero).toList (ntC ⟨x0, x6, (k : Int), D, aB, false⟩).toList rfl rfl S4.out.1.r (Nat.le_refl _) (sizeNt _) (oneNt _) ?_; intro w14 n14 g14))
                have S14 : Hid (Blk w.heap.size 23 (ntC ⟨x0, x6, (k : Int), D, aB, false⟩).toList w14 ∧ Below w.heap.size w w14) := ⟨n14, below_row S4.out.1.b g14 (Nat.le_refl _)⟩
                refine ret_blk_tmp rfl rfl w.heap.size 23 (ntC ⟨x0, x6, (k : Int), D, aB, false⟩).toList _ rfl S14.out.1 Tryd.underlying23 rfl (sizeNt _) ?_
                exact ⟨_, _, YS, rfl, S14.out.2⟩
              | false =>
                have NX3 : Hid (∀ m : RpM.Nt, may m → m.Ok → m.kind < (k : Int) + 1 → letN m ≠ l) := NX2.out (by first | rfl | trivial) (by first | rfl | trivial)
                go_wp2_with fail
                go_roundw
                case rel => exact ⟨k + 1, by go_num, by omega, by omega, S4.out.1.b, S4.out.1.r, S4.out.1.c, by rw [Int.natCast_add]; exact NX3.out⟩
                case measure => simp [Go.RowKit.intOf]; omega
        · have NS : Hid (RdL l Nt.zero false) := ⟨(fun e => by cases e), fun _ => ⟨rfl, fun m hm om => HR.out.n m hm om (by obtain ⟨_, _, _, h4, _⟩ := hm; omega)⟩⟩
          have S3 : Hid (Below w.heap.size w wr ∧ Blk w.heap.size 23 (ntC Nt.zero).toList wr) := ⟨HR.out.b, HR.out.r⟩
          clear HR
          go_wp2_with (refine step_store rfl 23 _ _ rfl w.heap.size 0 23 (ntC Nt.zero).toList (ntC Nt.zero).toList rfl rfl S3.out.2 (Nat.le_refl _) (sizeNt _) (oneNt _) ?_; intro w14 n14 g14)
          have S14 : Hid (Blk w.heap.size 23 (ntC Nt.zero).toList w14 ∧ Below w.heap.size w w14) := ⟨n14, below_row S3.out.1 g14 (Nat.le_refl _)⟩
          refine ret_blk_tmp rfl rfl w.heap.size 23 (ntC Nt.zero).toList _ rfl S14.out.1 Tryd.underlying23 rfl (sizeNt _) ?_
          exact ⟨_, _, NS.out, rfl, S14.out.2⟩
    · have NS : Hid (RdL l Nt.zero false) := ⟨(fun e => by cases e), fun _ => ⟨rfl, fun m hm om h => hok (CI.out m hm om h).1⟩⟩
      rw [if_neg hok, decide_eq_false hok] at NU2
      clear hok
      go_upto_region 4 with fail
      go_region_held3 (fun w' => Below w1.heap.size w1 w' ∧ w'.cell? ⟨g, o + 1, none⟩ = some (.int .i64 x1) ∧ w'.cell? ⟨g, o + 2, none⟩ = some (.int .i64 x2) ∧ w'.cell? ⟨g, o + 3, none⟩ = some (.int .i64 x3)) (first | assumption | exact ⟨Below.drew S0.out.1, c1, c2, c3⟩ | exact held3n hU (by assumption)) (first | (go_at_call 18; refine (NU2.out _).mono ?_; rintro e w2 ⟨rfl, hU⟩))
      rename_i hH
      have S3 : Hid (Below w.heap.size w w2 ∧ Blk w.heap.size 23 (ntC Nt.zero).toList w2) := ⟨below_trans S2.out.1 hH.1, S2.out.2.1.below hH.1⟩
      clear hH hU c1 c2 c3 S0 S2 NU2
      go_wp2_with (refine step_store rfl 23 _ _ rfl w.heap.size 0 23 (ntC Nt.zero).toList (ntC Nt.zero).toList rfl rfl S3.out.2 (Nat.le_refl _) (sizeNt _) (oneNt _) ?_; intro w14 n14 g14)
      have S14 : Hid (Blk w.heap.size 23 (ntC Nt.zero).toList w14 ∧ Below w.heap.size w w14) := ⟨n14, below_row S3.out.1 g14 (Nat.le_refl _)⟩
      refine ret_blk_tmp rfl rfl w.heap.size 23 (ntC Nt.zero).toList _ rfl S14.out.1 Tryd.underlying23 rfl (sizeNt _) ?_
      exact ⟨_, _, NS.out, rfl, S14.out.2⟩
  · have NS : Hid (RdL l Nt.zero false) := ⟨(fun e => by cases e), fun _ => ⟨rfl, fun m hm om h => h7 (CD.out m hm om h)⟩⟩
    have q7 : ((R.length : Int) != 7) = true := by rw [bne_iff_ne]; omega
    have q8 : ((R.length : Int) == 7) = false := by rw [beq_eq_false_iff_ne]; omega
    go_wp2_with (refine step_store rfl 23 _ _ rfl w.heap.size 0 23 (ntC Nt.zero).toList (ntC Nt.zero).toList rfl rfl S1.out.2 (Nat.le_refl _) (sizeNt _) (oneNt _) ?_; intro w14 n14 g14)
    have S14 : Hid (Blk w.heap.size 23 (ntC Nt.zero).toList w14 ∧ Below w.heap.size w w14) := ⟨n14, below_row S1.out.1 g14 (Nat.le_refl _)⟩
    refine ret_blk_tmp rfl rfl w.heap.size 23 (ntC Nt.zero).toList _ rfl S14.out.1 Tryd.underlying23 rfl (sizeNt _) ?_
    exact ⟨_, _, NS.out, rfl, S14.out.2⟩
end Go.Proofs.YtpkgdkgbbbbaoaaDoor
