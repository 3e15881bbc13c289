/-
  Ours: the walk of LedgerExact.
-/
import Derived.Test.YtacdnigeboeleaaDoorLedXop
import Derived.Test.YtacdnigeboeleaaDoorLedTots
import Derived.Test.YtacdnigeboeleaaDoorLedRevs
import Derived.Test.YtacdnigeboeleaaDoorLedPos
import Derived.Test.YtacdnigeboeleaaDoorLedBal2
import Derived.Test.YtacdnigeboeleaaDoorLedRTrial
namespace Go.Proofs.YtacdnigeboeleaaDoor
open Go.RowKit LedM

theorem RdBk.two (w : World) (a b : List Int) (ha : a.length = 12) : RdBk (w.alloc (.cells (bkL a ++ bkL b).toArray 25)) (.slice (some ⟨w.heap.size, 0, none⟩) 2 2) [a, b] := by
  have al := (Blk.new 25 (bkL a ++ bkL b) w).all
  refine ⟨_, _, rfl, Nat.le_refl _, (fun h => by cases h), fun i hi => ?_⟩
  have hi2 : i = 0 ∨ i = 1 := by simp at hi; omega
  rcases hi2 with rfl | rfl
  · refine ⟨_, _, rfl, by simp, fun j v hj => ?_⟩
    have hj' : j < (bkL a).length := (List.getElem?_eq_some_iff.1 hj).1
    have := al j v (by rw [List.getElem?_append_left hj']; exact hj)
    simpa using this
  · refine ⟨_, _, rfl, by simp, fun j v hj => ?_⟩
    have := al (12 + j) v (by rw [List.getElem?_append_right (by rw [bkL_len, ha]; omega), bkL_len, ha, show 12 + j - 12 = j by omega]; exact hj)
    simpa using this
theorem twelve {l : List Int} (h : l.length = 12) : ∃ a0 a1 a2 a3 a4 a5 a6 a7 a8 a9 a10 a11, l = [a0, a1, a2, a3, a4, a5, a6, a7, a8, a9, a10, a11] := by
  match l, h with
  | [a0, a1, a2, a3, a4, a5, a6, a7, a8, a9, a10, a11], _ => exact ⟨_, _, _, _, _, _, _, _, _, _, _, _, rfl⟩
theorem revE_ok {es : List Ent} (h : ∀ e ∈ es, EntOk e) (hl : es.length ≤ 1048576) : (∀ e ∈ revE es, EntOk e) ∧ (revE es).length ≤ 1048576 := by
  exact ⟨ok_rev h, by rw [revE_len]; exact hl⟩
theorem infoO {o : OpE} {x : Option Addr} {c : Nat} (h : o.bk.length = 12) : (Tryd.prog.info? 28).map (·.size) = some (oeL o x c).length := by
  have : (oeL o x c).length = 15 := by simp [oeL, bkL_len, h]
  exact (show (Tryd.prog.info? 28).map (·.size) = some 15 by kernel_rfl).trans (congrArg some this.symm)
theorem oneO (o : OpE) (x : Option Addr) (c : Nat) : ∀ v ∈ oeL o x c, v.oneCell' = true := fun v hv => by
  simp only [oeL, List.mem_cons] at hv
  rcases hv with rfl | rfl | rfl | hv
  · rfl
  · rfl
  · rfl
  · exact bkL_one _ v hv
/-- The book of the walk's own. -/
structure X0 (w : World) (B : Nat) (b : List Int) (w' : World) : Prop where
  bb : Below w.heap.size w w'
  hB : w.heap.size ≤ B
  kb : Blk B 25 (bkL b) w'
/-- The book, and the operation at hand. -/
structure XS (w : World) (B G : Nat) (b : List Int) (o : OpE) (x : Option Addr) (c : Nat) (w' : World) : Prop where
  bb : Below w.heap.size w w'
  hB : w.heap.size ≤ B
  kb : Blk B 25 (bkL b) w'
  hG : B < G
  ko : Blk G 28 (oeL o x c) w'
theorem XS.base {w : World} {B G : Nat} {b : List Int} {o : OpE} {x : Option Addr} {c : Nat} {w' : World} (h : XS w B G b o x c w') : X0 w B b w' := ⟨h.bb, h.hB, h.kb⟩
theorem XS.call {w : World} {B G : Nat} {b : List Int} {o : OpE} {x : Option Addr} {c : Nat} {w' w2 : World} (h : XS w B G b o x c w') (hb : Below w'.heap.size w' w2) : XS w B G b o x c w2 := ⟨below_trans h.bb hb, h.hB, h.kb.below hb, h.hG, h.ko.below hb⟩
theorem XS.over {w : World} {B G : Nat} {b b' : List Int} {o : OpE} {x : Option Addr} {c : Nat} {w' w2 : World} (h : XS w B G b o x c w') (nb : Blk B 25 (bkL b') w2) (g : w'.grownBy w2 (some B)) : X0 w B b' w2 := ⟨below_row h.bb g h.hB, h.hB, nb⟩

set_option maxRecDepth 20000 in
set_option maxHeartbeats 100000000 in
theorem lexact_any (os : List OpE) (v : Value) (w : World) (hr : RdS w v os) (ok : ∀ o ∈ os, OpEOk o) (hn : os.length ≤ 1048576) (hT : TabD w) :
    Calls Tryd.prog 3 #[v] w fun e w' => e = .returned (.bool true) ∧ Below w.heap.size w w' := by
  have PS : Hid (∀ l es v' w', Below w.heap.size w w' → BkOk l → RdE w' v' es → (∀ e ∈ es, EntOk e) → es.length ≤ 1048576 → Calls Tryd.prog 6 #[.agg (bkL l).toArray, v'] w' fun e w2 => e = .returned (.bool true) ∧ Below w'.heap.size w' w2) := fun l es v' w' hb h1 h2 h3 h4 => posts_any l es v' w' h1 h2 h3 h4 (hT.later hb)
  have PO : Hid (∀ l es v' w', Below w.heap.size w w' → BkOk l → RdE w' v' es → (∀ e ∈ es, EntOk e) → es.length ≤ 1048576 → Calls Tryd.prog 7 #[.agg (bkL l).toArray, v'] w' fun e w2 => e = .returned (.tuple #[.agg (bkL (postB l es)).toArray, .int .i64 (postE l es)]) ∧ Below w'.heap.size w' w2) := fun l es v' w' hb h1 h2 h3 h4 => post_at l es v' w' h1 h3 (by omega) h2 (hT.later hb)
  have RV : Hid (∀ es v' w', Below w.heap.size w w' → RdE w' v' es → es.length ≤ 1048576 → Calls Tryd.prog 4 #[v'] w' fun e w2 => ∃ v2, e = .returned v2 ∧ RowE w'.heap.size w2 v2 (revE es) ∧ Below w'.heap.size w' w2) := fun es v' w' _ h1 h2 => rev_at es v' w' (by omega) h1
  have RS : Hid (∀ es v' w', Below w.heap.size w w' → RdE w' v' es → (∀ e ∈ es, EntOk e) → es.length ≤ 1048576 → Calls Tryd.prog 5 #[v'] w' fun e w2 => e = .returned (.bool true) ∧ Below w'.heap.size w' w2) := fun es v' w' _ h1 h2 h3 => reverses_any es v' w' h3 h1
  have BA : Hid (∀ l a w', Below w.heap.size w w' → BkOk l → Calls Tryd.prog 8 #[.agg (bkL l).toArray, .int .i64 a] w' fun e w2 => e = .returned (.bool true) ∧ Below w'.heap.size w' w2) := fun l a w' hb h1 => balances_any l a w' h1 (hT.later hb)
  have TR : Hid (∀ l w', BkOk l → Calls Tryd.prog 9 #[.agg (bkL l).toArray] w' fun e w2 => e = .returned (.bool true) ∧ Below w'.heap.size w' w2) := fun l w' h1 => trials_any l w' h1
  have TT : Hid (∀ bs v' w', RdBk w' v' bs → (∀ b ∈ bs, BkOk b) → bs.length ≤ 1048576 → Calls Tryd.prog 10 #[v'] w' fun e w2 => e = .returned (.bool true) ∧ Below w'.heap.size w' w2) := fun bs v' w' h1 h2 h3 => totals_any bs v' w' h1 h2 h3
  obtain ⟨ao, cap, rfl, HR⟩ := hr
  have OP : Hid (∀ i, i < os.length → ∃ o g off x c, ao = some ⟨g, off, none⟩ ∧ OpEOk o ∧ (∀ w', Below w.heap.size w w' → w'.rangeAt g (off + i * 15) (oeL o x c)) ∧ (∀ w', Below w.heap.size w w' → RdE w' (.slice x o.es.length c) o.es)) := fun i hi => by
    obtain ⟨g, off, x, c, e, lt, rg, re⟩ := HR i os[i] (List.getElem?_eq_getElem hi)
    exact ⟨os[i], g, off, x, c, e, ok _ (List.getElem_mem hi), fun w' hb j u hj => (hb.cell (p := ⟨g, off + i * 15 + j, none⟩) lt).trans (rg j u hj), fun w' hb => re.later hb⟩
  obtain ⟨n, hln⟩ : ∃ n, os.length = n := ⟨_, rfl⟩
  rw [hln] at hn OP ⊢
  clear hln HR ok hT
  have S0 : Hid (X0 w w.heap.size zeroL (w.alloc (.cells (bkL zeroL).toArray 25))) := ⟨below_alloc w _, Nat.le_refl _, Blk.new 25 (bkL zeroL) w⟩
  obtain ⟨B, HB⟩ : ∃ B, Hid (w.heap.size = B) := ⟨_, rfl⟩
  go_enter Tryd.func3, Tryd.ntmps3
  go_wp2_with fail
  rw [HB.out]
  rw [show w.heap.size = B from HB.out] at S0
  go_loopw [4, 5, 6, 7] (fun vi _ _ _ wx => ∃ (i : Nat) (b : List Int), vi = .int .i64 (i : Int) ∧ i ≤ n ∧ Hid (BkOk b) ∧ Hid (X0 w B b wx)) (fun vi _ _ _ _ => n - (intOf vi).toNat)
  case atStart => exact ⟨0, zeroL, rfl, by omega, zero_ok, S0.out⟩
  case round =>
    obtain ⟨i, b, rfl, hi, OKB, XB⟩ := hrel
    by_cases hlt : (i : Int) < (n : Int)
    · obtain ⟨o, g, off, x, c, rfl, OKE, rg, re⟩ := OP.out i (by omega)
      have RE : Hid (∀ w', Below w.heap.size w w' → RdE w' (.slice x o.es.length c) o.es) := re
      have RG : Hid (wr.rangeAt g (off + i * 15) (oeL o x c)) := rg wr XB.out.bb
      have OKE : Hid (OpEOk o) := OKE
      have ZB : Hid (Blk wr.heap.size 28 (.int .i64 0 :: .int .i64 0 :: .slice none 0 0 :: bkL zeroL) (wr.alloc (.cells (.int .i64 0 :: .int .i64 0 :: .slice none 0 0 :: bkL zeroL : List Value).toArray 28))) := Blk.new 28 _ wr
      clear rg re OP
      go_upto_region 6 with (first
        | (refine step_load rfl 28 _ rfl g (off + i * 15) rfl (oeL o x c) _ RG.out Tryd.underlying28 rfl (infoO OKE.out.2.2.1) ?_)
        | (refine step_store rfl 28 _ _ rfl wr.heap.size 0 28 (.int .i64 0 :: .int .i64 0 :: .slice none 0 0 :: bkL zeroL) (oeL o x c) rfl rfl ZB.out (by simp only [oeL, List.length_cons, bkL_len, OKE.out.2.2.1]; exact Nat.le_refl _) (infoO OKE.out.2.2.1) (oneO o x c) ?_; intro w2 nb2 g2))
      have XX : Hid (XS w B wr.heap.size b o x c w2) := by
        have h1 := XB.out
        have k1 := h1.kb.old (.cells (.int .i64 0 :: .int .i64 0 :: .slice none 0 0 :: bkL zeroL : List Value).toArray 28)
        refine ⟨below_row (below_trans h1.bb (below_alloc wr _)) g2 h1.bb.size, h1.hB, k1.grown g2 (fun e => by have := h1.kb.lt; injection e with e; omega), h1.kb.lt, ?_⟩
        rw [store_all (by simp only [oeL, List.length_cons, bkL_len, OKE.out.2.2.1]; rfl)] at nb2
        exact nb2
      obtain ⟨G, HG⟩ : ∃ G, Hid (wr.heap.size = G) := ⟨_, rfl⟩
      rw [HG.out] at XX ⊢
      clear nb2 g2 ZB HG RG XB
      obtain ⟨kk, ac, es, bk⟩ := o
      dsimp only at RE
      have c0 := XX.out.ko.cell 0 _ rfl
      have c1 := XX.out.ko.cell 1 _ rfl
      have c2 := XX.out.ko.cell 2 _ rfl
      dsimp only at c0 c1 c2
      have OKE : Hid ((∀ e ∈ es, EntOk e) ∧ es.length ≤ 1048576 ∧ BkOk bk) := OKE.out
      by_cases k1 : kk = 1
      · subst k1
        go_wp2_with (refine step_loadG rfl 25 _ rfl B 0 rfl (bkL b) _ XX.out.kb.all Tryd.underlying25 rfl (infoBl OKB.out.1) ?_)
        have OKP : Hid (BkOk (postB b es)) := postB_ok OKB.out
        obtain ⟨pb, hpb⟩ : ∃ pb, postB b es = pb := ⟨_, rfl⟩
        have POQ : Hid (∀ w', Below w.heap.size w w' → RdE w' (.slice x es.length c) (es) → Calls Tryd.prog 7 #[.agg (bkL b).toArray, .slice x es.length c] w' fun e w2 => e = .returned (.tuple #[.agg (bkL pb).toArray, .int .i64 (postE b es)]) ∧ Below w'.heap.size w' w2) := fun w' h1 h2 => by rw [← hpb]; exact PO.out b es _ w' h1 OKB.out h2 OKE.out.1 OKE.out.2.1
        generalize postE b es = pe at *
        rw [hpb] at OKP
        clear hpb PO
        refine (PS.out b es _ _ XX.out.bb OKB.out (RE.out _ XX.out.bb) OKE.out.1 OKE.out.2.1).mono ?_
        rintro e w3 ⟨rfl, bx⟩
        have RD1 : Hid (RdE w3 (.slice x es.length c) (es)) := RdE.later (RE.out _ XX.out.bb) bx
        have XX' : XS w B G b ⟨1, ac, es, bk⟩ x c w3 := XX.out.call bx
        clear bx XX
        have XX : Hid (XS w B G b ⟨1, ac, es, bk⟩ x c w3) := XX'
        clear XX'
        have c0 := XX.out.ko.cell 0 _ rfl
        have c1 := XX.out.ko.cell 1 _ rfl
        have c2 := XX.out.ko.cell 2 _ rfl
        go_wp2_with (refine step_load rfl 25 _ rfl B 0 rfl (bkL b) _ XX.out.kb.all Tryd.underlying25 rfl (infoBl OKB.out.1) ?_)
        refine (POQ.out _ XX.out.bb RD1.out).mono ?_
        rintro e w4 ⟨rfl, bx⟩
        clear RD1 POQ PS
        have XX' : XS w B G b ⟨1, ac, es, bk⟩ x c w4 := XX.out.call bx
        clear bx XX
        have XX : Hid (XS w B G b ⟨1, ac, es, bk⟩ x c w4) := XX'
        clear XX'
        have c0 := XX.out.ko.cell 0 _ rfl
        have c1 := XX.out.ko.cell 1 _ rfl
        have c2 := XX.out.ko.cell 2 _ rfl
        go_upto_region 24 with (refine step_store rfl 25 _ _ rfl B 0 25 (bkL b) (bkL pb) rfl rfl XX.out.kb (by rw [bkL_len, bkL_len, OKB.out.1, OKP.out.1]; exact Nat.le_refl _) (infoBl OKP.out.1) (bkL_one _) ?_; intro w9 nb gr)
        have YY : Hid (X0 w B pb w9) := XX.out.over (by rw [store_all (by rw [bkL_len, bkL_len, OKB.out.1, OKP.out.1])] at nb; exact nb) gr
        clear nb gr XX
        go_wp2_with fail
        go_roundw
        case rel => exact ⟨i + 1, pb, by go_num, by omega, OKP.out, YY.out⟩
        case measure => simp [intOf]; omega
      have e1 : (kk == 1) = false := beq_eq_false_iff_ne.2 k1
      clear k1
      by_cases k2 : kk = 2
      · subst k2
        go_wp2_with fail
        refine (RV.out es _ _ XX.out.bb (RE.out _ XX.out.bb) OKE.out.2.1).mono ?_
        rintro e w3 ⟨v3, rfl, r3, bx⟩
        have R3 : Hid (RowE w2.heap.size w3 v3 (revE es)) := r3
        clear r3
        have XX' : XS w B G b ⟨2, ac, es, bk⟩ x c w3 := XX.out.call bx
        clear bx XX
        have XX : Hid (XS w B G b ⟨2, ac, es, bk⟩ x c w3) := XX'
        clear XX'
        have c0 := XX.out.ko.cell 0 _ rfl
        have c1 := XX.out.ko.cell 1 _ rfl
        have c2 := XX.out.ko.cell 2 _ rfl
        go_wp2_with fail
        refine (RS.out es _ _ XX.out.bb (RE.out _ XX.out.bb) OKE.out.1 OKE.out.2.1).mono ?_
        rintro e w4 ⟨rfl, bx⟩
        have R4 : Hid (RdE w4 v3 (revE es)) := RdE.later (RowE.rd R3.out) bx
        clear R3
        have XX' : XS w B G b ⟨2, ac, es, bk⟩ x c w4 := XX.out.call bx
        clear bx XX
        have XX : Hid (XS w B G b ⟨2, ac, es, bk⟩ x c w4) := XX'
        clear XX'
        have c0 := XX.out.ko.cell 0 _ rfl
        have c1 := XX.out.ko.cell 1 _ rfl
        have c2 := XX.out.ko.cell 2 _ rfl
        have OKR : Hid ((∀ e ∈ revE es, EntOk e) ∧ (revE es).length ≤ 1048576) := revE_ok OKE.out.1 OKE.out.2.1
        generalize revE es = rs at *
        go_wp2_with (refine step_loadG rfl 25 _ rfl B 0 rfl (bkL b) _ XX.out.kb.all Tryd.underlying25 rfl (infoBl OKB.out.1) ?_)
        have OKP : Hid (BkOk (postB b rs)) := postB_ok OKB.out
        obtain ⟨pb, hpb⟩ : ∃ pb, postB b rs = pb := ⟨_, rfl⟩
        have POQ : Hid (∀ w', Below w.heap.size w w' → RdE w' (v3) (rs) → Calls Tryd.prog 7 #[.agg (bkL b).toArray, v3] w' fun e w2 => e = .returned (.tuple #[.agg (bkL pb).toArray, .int .i64 (postE b rs)]) ∧ Below w'.heap.size w' w2) := fun w' h1 h2 => by rw [← hpb]; exact PO.out b rs _ w' h1 OKB.out h2 OKR.out.1 OKR.out.2
        generalize postE b rs = pe at *
        rw [hpb] at OKP
        clear hpb PO
        refine (PS.out b rs _ _ XX.out.bb OKB.out R4.out OKR.out.1 OKR.out.2).mono ?_
        rintro e w5 ⟨rfl, bx⟩
        have RD1 : Hid (RdE w5 (v3) (rs)) := RdE.later R4.out bx
        have XX' : XS w B G b ⟨2, ac, es, bk⟩ x c w5 := XX.out.call bx
        clear bx XX
        have XX : Hid (XS w B G b ⟨2, ac, es, bk⟩ x c w5) := XX'
        clear XX'
        have c0 := XX.out.ko.cell 0 _ rfl
        have c1 := XX.out.ko.cell 1 _ rfl
        have c2 := XX.out.ko.cell 2 _ rfl
        go_wp2_with (refine step_load rfl 25 _ rfl B 0 rfl (bkL b) _ XX.out.kb.all Tryd.underlying25 rfl (infoBl OKB.out.1) ?_)
        refine (POQ.out _ XX.out.bb RD1.out).mono ?_
        rintro e w6 ⟨rfl, bx⟩
        clear RD1 POQ PS
        have XX' : XS w B G b ⟨2, ac, es, bk⟩ x c w6 := XX.out.call bx
        clear bx XX
        have XX : Hid (XS w B G b ⟨2, ac, es, bk⟩ x c w6) := XX'
        clear XX'
        have c0 := XX.out.ko.cell 0 _ rfl
        have c1 := XX.out.ko.cell 1 _ rfl
        have c2 := XX.out.ko.cell 2 _ rfl
        go_upto_region 24 with (refine step_store rfl 25 _ _ rfl B 0 25 (bkL b) (bkL pb) rfl rfl XX.out.kb (by rw [bkL_len, bkL_len, OKB.out.1, OKP.out.1]; exact Nat.le_refl _) (infoBl OKP.out.1) (bkL_one _) ?_; intro w9 nb gr)
        have YY : Hid (X0 w B pb w9) := XX.out.over (by rw [store_all (by rw [bkL_len, bkL_len, OKB.out.1, OKP.out.1])] at nb; exact nb) gr
        clear nb gr XX
        go_wp2_with fail
        go_roundw
        case rel => exact ⟨i + 1, pb, by go_num, by omega, OKP.out, YY.out⟩
        case measure => simp [intOf]; omega
      have e2 : (kk == 2) = false := beq_eq_false_iff_ne.2 k2
      clear k2
      by_cases k3 : kk = 3
      · subst k3
        go_wp2_with (refine step_load rfl 25 _ rfl B 0 rfl (bkL b) _ XX.out.kb.all Tryd.underlying25 rfl (infoBl OKB.out.1) ?_)
        refine (BA.out b ac _ XX.out.bb OKB.out).mono ?_
        rintro e w3 ⟨rfl, bx⟩
        have XX' : XS w B G b ⟨3, ac, es, bk⟩ x c w3 := XX.out.call bx
        clear bx XX
        have XX : Hid (XS w B G b ⟨3, ac, es, bk⟩ x c w3) := XX'
        clear XX'
        have c0 := XX.out.ko.cell 0 _ rfl
        have c1 := XX.out.ko.cell 1 _ rfl
        have c2 := XX.out.ko.cell 2 _ rfl
        have YY : Hid (X0 w B b w3) := XX.out.base
        clear XX
        go_wp2_with fail
        go_roundw
        case rel => exact ⟨i + 1, b, by go_num, by omega, OKB.out, YY.out⟩
        case measure => simp [intOf]; omega
      have e3 : (kk == 3) = false := beq_eq_false_iff_ne.2 k3
      clear k3
      by_cases k4 : kk = 4
      · subst k4
        go_wp2_with (refine step_load rfl 25 _ rfl B 0 rfl (bkL b) _ XX.out.kb.all Tryd.underlying25 rfl (infoBl OKB.out.1) ?_)
        refine (TR.out b _ OKB.out).mono ?_
        rintro e w3 ⟨rfl, bx⟩
        have XX' : XS w B G b ⟨4, ac, es, bk⟩ x c w3 := XX.out.call bx
        clear bx XX
        have XX : Hid (XS w B G b ⟨4, ac, es, bk⟩ x c w3) := XX'
        clear XX'
        have c0 := XX.out.ko.cell 0 _ rfl
        have c1 := XX.out.ko.cell 1 _ rfl
        have c2 := XX.out.ko.cell 2 _ rfl
        have YY : Hid (X0 w B b w3) := XX.out.base
        clear XX
        go_wp2_with fail
        go_roundw
        case rel => exact ⟨i + 1, b, by go_num, by omega, OKB.out, YY.out⟩
        case measure => simp [intOf]; omega
      have e4 : (kk == 4) = false := beq_eq_false_iff_ne.2 k4
      clear k4
      by_cases k5 : kk = 5
      · subst k5
        have O5 : Hid (BkOk bk) := OKE.out.2.2
        obtain ⟨x0, x1, x2, x3, x4, x5, x6, x7, x8, x9, x10, x11, hxs⟩ := twelve OKB.out.1
        obtain ⟨y0, y1, y2, y3, y4, y5, y6, y7, y8, y9, y10, y11, hys⟩ := twelve O5.out.1
        subst hxs hys
        have RGB : Hid (w2.rangeAt G 3 [.int .i64 y0, .int .i64 y1, .int .i64 y2, .int .i64 y3, .int .i64 y4, .int .i64 y5, .int .i64 y6, .int .i64 y7, .int .i64 y8, .int .i64 y9, .int .i64 y10, .int .i64 y11]) := fun j u hj => XX.out.ko.cell (3 + j) u (by rw [Nat.add_comm]; exact hj)
        go_wp2_with (first
          | (refine step_load rfl 25 _ rfl B 0 rfl [.int .i64 x0, .int .i64 x1, .int .i64 x2, .int .i64 x3, .int .i64 x4, .int .i64 x5, .int .i64 x6, .int .i64 x7, .int .i64 x8, .int .i64 x9, .int .i64 x10, .int .i64 x11] _ XX.out.kb.all Tryd.underlying25 rfl (infoBl (l := [x0, x1, x2, x3, x4, x5, x6, x7, x8, x9, x10, x11]) rfl) ?_)
          | (refine step_load rfl 25 _ rfl G 3 rfl [.int .i64 y0, .int .i64 y1, .int .i64 y2, .int .i64 y3, .int .i64 y4, .int .i64 y5, .int .i64 y6, .int .i64 y7, .int .i64 y8, .int .i64 y9, .int .i64 y10, .int .i64 y11] _ RGB.out Tryd.underlying25 rfl (infoBl (l := [y0, y1, y2, y3, y4, y5, y6, y7, y8, y9, y10, y11]) rfl) ?_))
        refine (TT.out [[x0, x1, x2, x3, x4, x5, x6, x7, x8, x9, x10, x11], [y0, y1, y2, y3, y4, y5, y6, y7, y8, y9, y10, y11]] _ _ (RdBk.two w2 [x0, x1, x2, x3, x4, x5, x6, x7, x8, x9, x10, x11] [y0, y1, y2, y3, y4, y5, y6, y7, y8, y9, y10, y11] rfl) (fun q hq => by
          simp only [List.mem_cons, List.not_mem_nil, or_false] at hq
          rcases hq with rfl | rfl
          · exact OKB.out
          · exact O5.out) (by simp)).mono ?_
        rintro e w3 ⟨rfl, by'⟩
        have bx : Below w2.heap.size w2 w3 := below_trans (below_alloc w2 _) by'
        clear by'
        have XX' : XS w B G [x0, x1, x2, x3, x4, x5, x6, x7, x8, x9, x10, x11] ⟨5, ac, es, [y0, y1, y2, y3, y4, y5, y6, y7, y8, y9, y10, y11]⟩ x c w3 := XX.out.call bx
        clear bx XX
        have XX : Hid (XS w B G [x0, x1, x2, x3, x4, x5, x6, x7, x8, x9, x10, x11] ⟨5, ac, es, [y0, y1, y2, y3, y4, y5, y6, y7, y8, y9, y10, y11]⟩ x c w3) := XX'
        clear XX'
        have c0 := XX.out.ko.cell 0 _ rfl
        have c1 := XX.out.ko.cell 1 _ rfl
        have c2 := XX.out.ko.cell 2 _ rfl
        have YY : Hid (X0 w B [x0, x1, x2, x3, x4, x5, x6, x7, x8, x9, x10, x11] w3) := XX.out.base
        clear XX
        go_wp2_with fail
        go_roundw
        case rel => exact ⟨i + 1, [x0, x1, x2, x3, x4, x5, x6, x7, x8, x9, x10, x11], by go_num, by omega, OKB.out, YY.out⟩
        case measure => simp [intOf]; omega
      have e5 : (kk == 5) = false := beq_eq_false_iff_ne.2 k5
      clear k5
      by_cases k6 : kk = 6
      · subst k6
        have O6 : Hid (BkOk bk) := OKE.out.2.2
        have RGB : Hid (w2.rangeAt G 3 (bkL bk)) := fun j u hj => XX.out.ko.cell (3 + j) u (by rw [Nat.add_comm]; exact hj)
        go_upto_region 24 with (first
          | (refine step_load rfl 25 _ rfl G 3 rfl (bkL bk) _ RGB.out Tryd.underlying25 rfl (infoBl O6.out.1) ?_)
          | (refine step_store rfl 25 _ _ rfl B 0 25 (bkL b) (bkL bk) rfl rfl XX.out.kb (by rw [bkL_len, bkL_len, OKB.out.1, O6.out.1]; exact Nat.le_refl _) (infoBl O6.out.1) (bkL_one _) ?_; intro w9 nb gr))
        have YY : Hid (X0 w B bk w9) := XX.out.over (by rw [store_all (by rw [bkL_len, bkL_len, OKB.out.1, O6.out.1])] at nb; exact nb) gr
        clear nb gr XX
        go_wp2_with fail
        go_roundw
        case rel => exact ⟨i + 1, bk, by go_num, by omega, O6.out, YY.out⟩
        case measure => simp [intOf]; omega
      have e6 : (kk == 6) = false := beq_eq_false_iff_ne.2 k6
      clear k6
      have YY : Hid (X0 w B b w2) := XX.out.base
      clear XX
      go_wp2_with fail
      go_roundw
      case rel => exact ⟨i + 1, b, by go_num, by omega, OKB.out, YY.out⟩
      case measure => simp [intOf]; omega
    · have XX : Hid (X0 w B b wr) := XB
      clear XB OP
      go_wp2_with (refine step_load rfl 25 _ rfl B 0 rfl (bkL b) _ XX.out.kb.all Tryd.underlying25 rfl (infoBl OKB.out.1) ?_)
      refine (TR.out b _ OKB.out).mono ?_
      rintro e w3 ⟨rfl, b3⟩
      have X3 : Hid (X0 w B b w3) := ⟨below_trans XX.out.bb b3, XX.out.hB, XX.out.kb.below b3⟩
      clear b3 XX
      go_wp2_with (refine step_loadG rfl 25 _ rfl B 0 rfl (bkL b) _ X3.out.kb.all Tryd.underlying25 rfl (infoBl OKB.out.1) ?_)
      refine (PS.out b [] _ _ X3.out.bb OKB.out ⟨none, 0, rfl, Nat.le_refl _, fun _ => rfl, fun i hi => by simp at hi⟩ (fun e he => by cases he) (by simp)).mono ?_
      rintro e w4 ⟨rfl, b4⟩
      have X4 : Hid (X0 w B b w4) := ⟨below_trans X3.out.bb b4, X3.out.hB, X3.out.kb.below b4⟩
      clear b4 X3
      go_wp2_with (refine step_loadG rfl 25 _ rfl B 0 rfl (bkL b) _ X4.out.kb.all Tryd.underlying25 rfl (infoBl OKB.out.1) ?_)
      refine (BA.out b _ _ X4.out.bb OKB.out).mono ?_
      rintro e w5 ⟨rfl, b5⟩
      have X5 : Hid (X0 w B b w5) := ⟨below_trans X4.out.bb b5, X4.out.hB, X4.out.kb.below b5⟩
      clear b5 X4
      go_wp2_with (refine step_loadG rfl 25 _ rfl B 0 rfl (bkL b) _ X5.out.kb.all Tryd.underlying25 rfl (infoBl OKB.out.1) ?_)
      refine (BA.out b _ _ X5.out.bb OKB.out).mono ?_
      rintro e w6 ⟨rfl, b6⟩
      have X6 : Hid (Below w.heap.size w w6) := below_trans X5.out.bb b6
      clear b6 X5
      go_wp2_with fail
      go_ret
      exact ⟨rfl, X6.out⟩
end Go.Proofs.YtacdnigeboeleaaDoor
