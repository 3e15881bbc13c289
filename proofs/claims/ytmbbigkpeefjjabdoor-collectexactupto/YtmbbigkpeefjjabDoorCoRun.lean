/-
  Ours: Run, and events in memory of their own (gen_corun.py: THE SEAT's OWN NUMBERS).
-/
import Derived.Test.YtmbbigkpeefjjabDoorCoRow
import Derived.Test.YtmbbigkpeefjjabDoorCoNxt
import Derived.Test.YtmbbigkpeefjjabDoorAgCat
namespace Go.Proofs.YtmbbigkpeefjjabDoor
open Go.RowKit LedM PolM CoM

namespace CoM
/-- A case and all actions behind k events. -/
def rk (l hs : List Int) (c : Cs) (es : List Ev) : Nat → Mc
  | 0 => (c, [])
  | k + 1 => ((stepA l hs (rk l hs c es k).1 (eN es k)).2.1, (rk l hs c es k).2 ++ (stepA l hs (rk l hs c es k).1 (eN es k)).2.2)
theorem len_le {a b : List Int} {n m : Nat} (h : a.length ≤ n) (h' : b.length ≤ m) : (a ++ b).length ≤ n + m := by rw [List.length_append]; omega
theorem step_len (l hs : List Int) (c : Cs) (e : Ev) : (stepA l hs c e).2.2.length ≤ 4 := by
  unfold stepA
  by_cases h0 : (stepM l hs c e).1 = 0
  · rw [if_pos h0]
    unfold stepM
    cases good l hs
    · simp
    · rw [if_pos rfl]
      unfold ruleR
      by_cases k1 : e.k = 1
      · rw [if_pos k1]
        unfold ageR
        by_cases x : isD e.t = false ∨ e.d < 0
        · rw [if_pos x]; simp
        · rw [if_neg x]
          by_cases y : ovr c = true
          · rw [if_pos y]; simp
          · rw [if_neg y]
            have a1 : (age1 e (c, [])).2.length ≤ 1 := by unfold age1; split <;> simp
            have a3 : ∀ x : Mc, (age3 (l.getD 1 0) (l.getD 3 0) e x).2.length ≤ x.2.length + 1 := fun x => by
              unfold age3 lok
              split
              · omega
              · split
                · simp
                · split
                  · simp
                  · split <;> simp
            have a4 : ∀ x : Mc, (age4 (l.getD 2 0) e x).2.length ≤ x.2.length + 1 := fun x => by unfold age4; split <;> simp
            have a5 : ∀ x : Mc, (age5 e x).2.length ≤ x.2.length + 1 := fun x => by unfold age5; split <;> simp
            unfold ageM
            split
            · simp only [List.length_append, List.length_singleton]; omega
            · have b5 := a5 (age4 (l.getD 2 0) e (age3 (l.getD 1 0) (l.getD 3 0) e (age1 e (c, []))))
              have b4 := a4 (age3 (l.getD 1 0) (l.getD 3 0) e (age1 e (c, [])))
              have b3 := a3 (age1 e (c, []))
              dsimp only at b5 b4 b3 ⊢
              omega
      · rw [if_neg k1]
        by_cases k2 : e.k = 2
        · rw [if_pos k2]
          unfold paidR
          have a1 : (pay1 e.a (c, [])).2.length ≤ 1 := by
            unfold pay1
            split
            · split <;> simp
            · simp
          split
          · simp
          · split
            · simp
            · split
              · simp
              · unfold paidM
                dsimp only
                split
                · simp only [List.length_append, List.length_singleton]; omega
                · split <;> (try dsimp only) <;> omega
        · rw [if_neg k2]
          by_cases k3 : e.k = 3
          · rw [if_pos k3]; unfold retR retM
            split
            · simp
            · split
              · simp
              · dsimp only; split <;> simp
          · rw [if_neg k3]
            by_cases k4 : e.k = 4
            · rw [if_pos k4]; unfold proR proM
              repeat' split
              all_goals simp
            · rw [if_neg k4]
              by_cases k5 : e.k = 5
              · rw [if_pos k5]; unfold resR resM
                repeat' split
                all_goals simp
              · rw [if_neg k5]
                by_cases k6 : e.k = 6
                · rw [if_pos k6]; unfold feeR feeM
                  repeat' split
                  all_goals simp
                · rw [if_neg k6]
                  by_cases k7 : e.k = 7
                  · rw [if_pos k7]; unfold shutR shutM shut1
                    split
                    · simp
                    · dsimp only; split <;> simp
                  · rw [if_neg k7]; simp
  · rw [if_neg h0]; simp
theorem rk_len (l hs : List Int) (c : Cs) (es : List Ev) : ∀ k, (rk l hs c es k).2.length ≤ 4 * k
  | 0 => by simp [rk]
  | k + 1 => by
    have := rk_len l hs c es k
    have := step_len l hs (rk l hs c es k).1 (eN es k)
    simp only [rk, List.length_append]; omega
theorem rk_inv {l hs : List Int} {c : Cs} {es : List Ev} (hg : good l hs = true) (I : Inv (pn l) 0 c) (ok : ∀ i, EvOk (eN es i)) : ∀ k : Nat, k ≤ 4398046511104 → Inv (pn l) (k : Int) (rk l hs c es k).1
  | 0, _ => I
  | k + 1, hk => (inv_next (hs := hs) (.inl (rk_inv hg I ok k (by omega))) (by omega) (ok k)).resolve_right (by rw [hg]; decide)
end CoM
/-- Run's own blocks. -/
structure RU (w : World) (l : List Int) (s : Value) (c : Cs) (w' : World) : Prop where
  p : Blk w.heap.size 24 (polL l s) w'
  c : Blk (w.heap.size + 1) 27 (csL c) w'
  r : Blk (w.heap.size + 1 + 1) 27 (csL ⟨0, false, 0, 0, 0, 0, 0, 0, 0, 0, 0, 0, 0, 0, 0⟩) w'
  bb : Below w.heap.size w w'
section
variable {w w1 w2 : World} {l : List Int} {s : Value} {c c' : Cs}
theorem RU.later (h : RU w l s c w1) (hb : Below w1.heap.size w1 w2) : RU w l s c w2 := ⟨h.p.below hb, h.c.below hb, h.r.below hb, below_trans h.bb hb⟩
theorem RU.drew (h : RU w l s c w1) : RU w l s c w1.drew := ⟨h.p, h.c, h.r, Below.drew h.bb⟩
theorem RU.row {v : Value} {vs : List Value} (h : RU w l s c w1) (hr : RowV 3 w.heap.size w1 v vs) (g : w1.grownBy w2 v.ownBlock) : RU w l s c w2 :=
  ⟨h.p.grown g (row_ne_blkC hr h.p (by decide)), h.c.grown g (row_ne_blkC hr h.c (by decide)), h.r.grown g (row_ne_blkC hr h.r (by decide)), below_grown h.bb hr (Nat.le_refl _) h.bb.size g⟩
theorem RU.put (h : RU w l s c w1) (nb : Blk (w.heap.size + 1) 27 (csL c') w2) (g : w1.grownBy w2 (some (w.heap.size + 1))) : RU w l s c' w2 :=
  ⟨h.p.grown g (fun e => by injection e with e; omega), nb, h.r.grown g (fun e => by injection e with e; omega), below_row h.bb g (by omega)⟩
theorem RU.grown {G : Nat} (h : RU w l s c w1) (g : w1.grownBy w2 (some G)) (hG : w.heap.size + 1 + 1 < G) : RU w l s c w2 :=
  ⟨h.p.grown g (fun e => by injection e with e; omega), h.c.grown g (fun e => by injection e with e; omega), h.r.grown g (fun e => by injection e with e; omega), below_row h.bb g (by omega)⟩
end
/-- What Run answers. -/
def RunAns (x : Mc) (w : World) (e : Ending) (w' : World) : Prop := ∃ ao n cap, e = .returned (.tuple #[csV x.1, .slice ao n cap]) ∧ RowV 3 w.heap.size w' (.slice ao n cap) (bkL x.2) ∧ Below w.heap.size w w'

set_option maxRecDepth 20000 in
set_option maxHeartbeats 4000000 in
theorem run_at (l hs : List Int) (s v : Value) (c : Cs) (es : List Ev) (w : World) (hl : l.length = 17) (hr : Rd w s (bkL hs)) (hb : hs.length * 8 ≤ 140737488355328) (er : RdV w v es) (hE : es.length ≤ 4398046511104) :
    Calls Tryd.prog 15 #[PV l s, csV c, v] w (RunAns (rk l hs c es es.length) w) := by
  show Calls _ _ #[.agg (polL l s).toArray, .agg (csL c).toArray, _] _ _
  obtain ⟨i0, hi, hz0, hz1, hz2⟩ := info_partsC infoInt
  have ST : Hid (∀ c ev w', Below w.heap.size w w' → Calls Tryd.prog 20 #[PV l s, csV c, evV ev] w' (StepAns (stepA l hs c ev) w')) := fun c ev w' h => step_at l hs s c ev w' hl (hr.later h) (by omega)
  have SZ : Hid ((Tryd.prog.info? 24).map (·.size) = some (polL l s).length) := by show _ = _; rw [polL_len hl]; exact sizeP
  have S1 : Hid (RU w l s c (((w.alloc (.cells (polL l s).toArray 24)).alloc (.cells (csL c).toArray 27)).alloc (.cells #[.int .i64 0, .bool false, .int .i64 0, .int .i64 0, .int .i64 0, .int .i64 0, .int .i64 0, .int .i64 0, .int .i64 0, .int .i64 0, .int .i64 0, .int .i64 0, .int .i64 0, .int .i64 0, .int .i64 0] 27))) :=
    ⟨((Blk.new _ _ _).old _).old _, (Blk.new2 _ _ _ _).old _, Blk.new3 27 (csL ⟨0, false, 0, 0, 0, 0, 0, 0, 0, 0, 0, 0, 0, 0, 0⟩) _ _ _, below_trans (below_trans (below_alloc _ _) (below_alloc _ _)) (below_alloc _ _)⟩
  have LL : Hid (∀ k, k ≤ es.length → (rk l hs c es k).2.length ≤ 4 * k) := fun k _ => rk_len l hs c es k
  have SL0 : Hid (∀ c e, (stepA l hs c e).2.2.length ≤ 4) := fun c e => step_len l hs c e
  have RN : Hid (∀ k, rk l hs c es (k + 1) = ((stepA l hs (rk l hs c es k).1 (eN es k)).2.1, (rk l hs c es k).2 ++ (stepA l hs (rk l hs c es k).1 (eN es k)).2.2)) := fun k => rfl
  have R0 : Hid (rk l hs c es 0 = (c, [])) := rfl
  obtain ⟨ao, cap, rfl, hcap, hno, er'⟩ := er
  have EC : Hid (∀ k, k < es.length → ∃ g o, ao = some ⟨g, o, none⟩ ∧ g < w.heap.size ∧ w.rangeAt g (o + k * 4) (evL (eN es k))) := er'
  clear hl hr hb er' hno
  generalize es.length = N at *
  go_enter Tryd.func15, Tryd.ntmps15
  go_upto_region 1 with fail
  generalize ((w.alloc (.cells (polL l s).toArray 24)).alloc (.cells (csL c).toArray 27)).alloc (.cells #[.int .i64 0, .bool false, .int .i64 0, .int .i64 0, .int .i64 0, .int .i64 0, .int .i64 0, .int .i64 0, .int .i64 0, .int .i64 0, .int .i64 0, .int .i64 0, .int .i64 0, .int .i64 0, .int .i64 0] 27) = w1 at *
  go_wp2_with fail
  go_loopw [8, 10, 11, 12, 13, 16] (fun v8 _ _ _ _ v16 wr => ∃ (k : Nat) (aa : Option Addr) (an ac : Nat), v16 = .int .i64 (k : Int) ∧ k ≤ N ∧ v8 = .slice aa an ac ∧ Hid (RU w l s (rk l hs c es k).1 wr) ∧ Hid (RowV 3 w.heap.size wr (.slice aa an ac) (bkL (rk l hs c es k).2))) (fun _ _ _ _ _ v16 _ => N - (intOf v16).toNat)
  case atStart => exact ⟨0, none, 0, 0, rfl, by omega, rfl, S1, RowV.nil _ _ _⟩
  case round =>
    obtain ⟨k, aa, an, ac, rfl, hk, rfl, SR, AR⟩ := hrel
    by_cases hlt : (k : Int) < (N : Int)
    · obtain ⟨g, o, rfl, lt, rg⟩ := EC.out k (by omega)
      have RG : Hid (wr.rangeAt g (o + k * 4) (evL (eN es k))) := range_laterC rg lt SR.out.bb
      have NX := RN.out k
      have ll := LL.out k hk
      have HN : Hid (rk l hs c es (k + 1) = ((stepA l hs (rk l hs c es k).1 (eN es k)).2.1, (rk l hs c es k).2 ++ (stepA l hs (rk l hs c es k).1 (eN es k)).2.2)) := NX
      clear rg lt EC NX RN R0 S1 LL
      generalize eN es k = ev at *
      obtain ⟨c0, acc, hx⟩ : ∃ c0 acc, rk l hs c es k = (c0, acc) := ⟨_, _, rfl⟩
      rw [hx] at SR AR HN ll
      clear hx
      have SK : Hid (∀ w', Below w.heap.size w w' → Calls Tryd.prog 20 #[PV l s, csV c0, evV ev] w' (StepAns (stepA l hs c0 ev) w')) := fun w' h => ST.out c0 ev w' h
      have sl := SL0.out c0 ev
      clear ST SL0
      dsimp only at SR AR HN ll
      generalize stepA l hs c0 ev = ans at *
      have L1 : Hid ((bkL acc).length + (bkL ans.2.2).length ≤ maxLen) := by show _ ≤ _; rw [bkL_len, bkL_len]; unfold maxLen; omega
      have L2 : Hid (((bkL acc).length + (bkL ans.2.2).length) * 8 ≤ 140737488355328) := by show _ ≤ _; rw [bkL_len, bkL_len]; omega
      clear ll sl
      have NZ : Hid (Blk wr.heap.size 37 [.int .i64 0, .int .i64 0, .int .i64 0, .int .i64 0] (wr.alloc (.cells #[.int .i64 0, .int .i64 0, .int .i64 0, .int .i64 0] 37))) := Blk.new _ _ _
      go_upto_region 5 with (first
      | ((with_reducible refine at_loadT 37 ?_); refine step_load rfl 37 _ rfl g (o + k * 4) rfl (evL ev) _ RG.out Tryd.underlying37 rfl (sizeEvL ev) ?_)
      | ((with_reducible refine at_store ?_); refine step_store rfl 37 _ _ rfl wr.heap.size 0 37 _ (evL ev) rfl rfl NZ.out (Nat.le_refl 4) (sizeEvL ev) (evL_one ev) ?_; intro w5 n5 g5))
      have lt5 : Hid (w.heap.size + 1 + 1 < wr.heap.size) := SR.out.r.lt
      have S5 : Hid (RU w l s c0 w5) := (SR.out.later (below_alloc _ _)).grown g5 lt5.out
      have E5 : Hid (Blk wr.heap.size 37 (evL ev) w5) := n5
      have A5 : Hid (RowV 3 w.heap.size w5 (.slice aa an ac) (bkL acc)) := rowV_blk (AR.out.later (below_alloc _ _)) NZ.out g5 (by decide)
      clear n5 g5 NZ SR AR RG
      obtain ⟨EB, hEB⟩ : ∃ EB, wr.heap.size = EB := ⟨_, rfl⟩
      rw [hEB] at E5
      rw [hEB]
      clear hEB lt5
      go_wp2_with (first
      | ((with_reducible refine at_loadT 24 ?_); refine step_load rfl 24 _ rfl w.heap.size 0 rfl (polL l s) _ (Blk.all S5.out.p) Tryd.underlying24 rfl SZ.out ?_)
      | ((with_reducible refine at_loadT 27 ?_); refine step_load rfl 27 _ rfl (w.heap.size + 1) 0 rfl (csL c0) _ (Blk.all S5.out.c) Tryd.underlying27 rfl (sizeCsL _) ?_)
      | ((with_reducible refine at_loadT 37 ?_); refine step_load rfl 37 _ rfl EB 0 rfl (evL ev) _ (Blk.all E5.out) Tryd.underlying37 rfl (sizeEvL _) ?_))
      refine (SK.out _ S5.out.bb).mono ?_
      rintro e w6 ⟨ra, rn, rc, rfl, rrow, b6⟩
      have S6 : Hid (RU w l s c0 w6) := S5.out.later b6
      have A6 : Hid (RowV 3 w.heap.size w6 (.slice aa an ac) (bkL acc)) := A5.out.later b6
      have R6 : Hid (RowV 3 w.heap.size w6 (.slice ra rn rc) (bkL ans.2.2)) := rrow.mono S5.out.bb.size
      have NZ : Hid (Blk w6.heap.size 27 (csL ⟨0, false, 0, 0, 0, 0, 0, 0, 0, 0, 0, 0, 0, 0, 0⟩) (w6.alloc (.cells #[.int .i64 0, .bool false, .int .i64 0, .int .i64 0, .int .i64 0, .int .i64 0, .int .i64 0, .int .i64 0, .int .i64 0, .int .i64 0, .int .i64 0, .int .i64 0, .int .i64 0, .int .i64 0, .int .i64 0] 27))) := Blk.new _ _ _
      clear rrow b6 S5 A5 E5
      go_upto_region 6 with ((with_reducible refine at_store ?_); refine step_store rfl 27 _ _ rfl w6.heap.size 0 27 _ (csL ans.2.1) rfl rfl NZ.out (Nat.le_refl 15) (sizeCsL _) (csL_one _) ?_; intro w7 n7 g7)
      have SL : Hid (w.heap.size + 1 + 1 < w6.heap.size) := S6.out.r.lt
      have S7 : Hid (RU w l s c0 w7) := (S6.out.later (below_alloc _ _)).grown g7 SL.out
      have SD : Hid (Blk w6.heap.size 27 (csL ans.2.1) w7) := n7
      have AR : Hid (RowV 3 w.heap.size w7 (.slice aa an ac) (bkL acc)) := rowV_blk (A6.out.later (below_alloc _ _)) NZ.out g7 (by decide)
      have RR : Hid (RowV 3 w.heap.size w7 (.slice ra rn rc) (bkL ans.2.2)) := rowV_blk (R6.out.later (below_alloc _ _)) NZ.out g7 (by decide)
      clear n7 g7 NZ S6 A6 R6
      obtain ⟨DB, hDB⟩ : ∃ DB, w6.heap.size = DB := ⟨_, rfl⟩
      rw [hDB] at SD SL
      rw [hDB]
      clear hDB
      go_upto_region 6 with fail
      have hu2 := Tryd.underlying27
      have hi2 := sizeCsL ans.2.1
      refine wp_region_held_drew (S := fun w' => ∃ c', RU w l s c' w' ∧ Blk DB 27 (csL ans.2.1) w' ∧ w.heap.size + 1 + 1 < DB) (by kernel_rfl) (⟨c0, S7.out.drew, SD.out, SL.out⟩) (fun hH => ?_)
      refine wpAnyH_take (i := 0) (oi := { dst := some 28, op := Op.load 27 (Operand.tmp 11), type := 27, pos := "collect.go:54", after := #[], guard := none }) (v := .agg (csL ans.2.1).toArray) rfl (by kernel_rfl) (by kernel_rfl) (by kernel_rfl) (fun _ _ _ h => h) (yieldsIf_load_mid (by rfl) _ _ rfl DB 0 rfl (csL ans.2.1) _ (fun w' h => (by obtain ⟨c', h1, h2, h3⟩ := h; exact h2.all)) hu2 rfl hi2) hH ?_
      try simp only [Act.put, List.setIfInBounds_toArray, List.set_cons_zero, List.set_cons_succ]
      refine wpAnyH_take (i := 1) (oi := { dst := some 29, op := Op.move (Operand.tmp 8), type := 22, pos := "collect.go:54", after := #[], guard := none }) (v := .slice aa an ac) rfl (by kernel_rfl) (by kernel_rfl) (by kernel_rfl) (fun _ _ _ h => h) (Or.inl ⟨by rfl, fun w' h => by go_simp⟩) hH ?_
      try simp only [Act.put, List.setIfInBounds_toArray, List.set_cons_zero, List.set_cons_succ]
      refine wpAnyH_take (i := 2) (oi := { dst := some 30, op := Op.move (Operand.tmp 12), type := 22, pos := "collect.go:54", after := #[], guard := none }) (v := .slice ra rn rc) rfl (by kernel_rfl) (by kernel_rfl) (by kernel_rfl) (fun _ _ _ h => h) (Or.inl ⟨by rfl, fun w' h => by go_simp⟩) hH ?_
      try simp only [Act.put, List.setIfInBounds_toArray, List.set_cons_zero, List.set_cons_succ]
      refine wpAnyH_ready (rs := [3]) (by kernel_rfl) (by simp) ?_
      refine AllReadyH.cons (o := { dst := some 31, op := Op.call { callee := Callee.builtin Builtin.append, args := #[Operand.tmp 29, Operand.tmp 30], argTypes := #[22, 22] }, type := 22, pos := "collect.go:54", after := #[{ on := 1, ground := Ground.data }, { on := 2, ground := Ground.data }], guard := none }) rfl (fun K hK => ?_) AllReadyH.nil
      obtain ⟨c', h1, h2, h3⟩ := hH
      refine step_catV rfl _ _ 22 rfl 3 i0 (.int .i64 0) 8 Tryd.underlying22 hi hz0 hz1 hz2 rfl w.heap.size _ _ (bkL acc) (bkL ans.2.2) (bkL_one _) rfl AR.out h1.bb.size rfl RR.out.rd L1.out L2.out ?_
      intro vA wA rA gA
      obtain ⟨aA, cA, rfl, -⟩ := rA.rd.len
      have h1A := h1.row AR.out gA
      have h2A := h2.grown gA (row_ne_blkC AR.out h2 (by decide))
      refine hK.out _ _ ⟨c', h1A, h2A, h3⟩ (fun hH => ?_)
      clear hH
      have h1 := h1A
      refine wpAnyH_ready (rs := [4]) (by kernel_rfl) (by simp) ?_
      refine AllReadyH.cons (o := { dst := none, op := Op.store 27 (Operand.tmp 4) (Operand.tmp 28), type := 0, pos := "collect.go:54", after := #[{ on := 0, ground := Ground.data }, { on := 3, ground := Ground.chain }, { on := 0, ground := Ground.phase }, { on := 1, ground := Ground.textOnly Departure.lateStores }, { on := 2, ground := Ground.textOnly Departure.lateStores }, { on := 3, ground := Ground.textOnly Departure.lateStoresUnsure }], guard := none }) rfl (fun K hK => ?_) AllReadyH.nil
      refine op_putC (zs := csL c') (csL ans.2.1) rfl (sizeCsL _) (csL_one _) rfl _ _ rfl (w.heap.size + 1) rfl rfl h1.c ?_
      intro wB bB gB
      have fB := h1.put bB gB
      have fR := rowV_blk rA h1.c gB (by decide)
      refine hK.out _ _ ⟨ans.2.1, fB, h2A.grown gB (fun e => by injection e with e; omega), h3⟩ (fun hH => ?_)
      simp only [Act.put]
      refine wpAnyH_take (i := 5) (oi := { dst := some 8, op := Op.assign (Operand.tmp 31), type := 22, pos := "collect.go:54", after := #[{ on := 3, ground := Ground.data }, { on := 4, ground := Ground.chain }, { on := 0, ground := Ground.phase }, { on := 1, ground := Ground.phase }, { on := 2, ground := Ground.phase }, { on := 3, ground := Ground.phase }, { on := 4, ground := Ground.phase }], guard := none }) (v := .slice aA (bkL acc ++ bkL ans.2.2).length cA) rfl (by kernel_rfl) (by kernel_rfl) (by kernel_rfl) (fun _ _ _ h => h) (Or.inl ⟨by rfl, fun w' h => by go_simp⟩) hH ?_
      try simp only [Act.put, List.setIfInBounds_toArray, List.set_cons_zero, List.set_cons_succ]
      refine wpAnyH_done (by kernel_rfl) ?_ _
      clear hH
      clear hK
      have T9 : Hid (RU w l s (rk l hs c es (k + 1)).1 wB) := by rw [HN.out]; exact fB
      have U9 : Hid (RowV 3 w.heap.size wB (.slice aA (bkL acc ++ bkL ans.2.2).length cA) (bkL (rk l hs c es (k + 1)).2)) := by rw [HN.out]; show RowV _ _ _ _ (bkL (acc ++ ans.2.2)); rw [show bkL (acc ++ ans.2.2) = bkL acc ++ bkL ans.2.2 from by simp [bkL]]; exact fR
      clear fB fR S7 SD AR RR HN
      go_wp2_with fail
      go_roundw
      case rel => exact ⟨k + 1, aA, (bkL acc ++ bkL ans.2.2).length, cA, by go_num, by omega, rfl, T9, U9⟩
      case measure => simp [intOf]; omega
    · obtain rfl : k = N := by omega
      obtain ⟨cN, aN, hx⟩ : ∃ cN aN, rk l hs c es k = (cN, aN) := ⟨_, _, rfl⟩
      rw [hx] at SR AR
      have HX : Hid (rk l hs c es k = (cN, aN)) := hx
      clear RN R0 LL hx
      dsimp only at SR AR
      go_wp2_with (first
      | ((with_reducible refine at_loadT 27 ?_); refine step_load rfl 27 _ rfl (w.heap.size + 1) 0 rfl (csL cN) _ (Blk.all SR.out.c) Tryd.underlying27 rfl (sizeCsL _) ?_)
      | ((with_reducible refine at_store ?_); refine step_store rfl 27 _ _ rfl (w.heap.size + 1 + 1) 0 27 _ (csL cN) rfl rfl SR.out.r (Nat.le_refl 15) (sizeCsL _) (csL_one _) ?_; intro w8 n8 g8))
      have N8 : Blk (w.heap.size + 1 + 1) 27 (csL cN) w8 := n8
      refine ret_blk_tmp rfl rfl (w.heap.size + 1 + 1) 27 (csL cN) _ rfl N8 Tryd.underlying27 rfl (sizeCsL _) ?_
      rw [HX.out]
      exact ⟨aa, an, ac, rfl, rowV_blk AR.out SR.out.r g8 (by decide), below_row SR.out.bb g8 (by omega)⟩

end Go.Proofs.YtmbbigkpeefjjabDoor
