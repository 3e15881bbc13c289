/-
  Ours: LedgerReverses.
-/
import Derived.Test.YtacdnigeboeleaaDoorLedRRev
namespace Go.Proofs.YtacdnigeboeleaaDoor
open Go.RowKit LedM

theorem RowE.shape {base : Nat} {w : World} {v : Value} {es : List Ent} (h : RowE base w v es) (h0 : 0 < es.length) : ∃ g cap, v = .slice (some ⟨g, 0, none⟩) es.length cap ∧ es.length ≤ cap := by
  rcases h.2 with ⟨_, hz⟩ | ⟨g, cap, cur, hv, _, _, hn, _⟩
  · omega
  · exact ⟨g, cap, hv, hn⟩
theorem RowE.form {base : Nat} {w : World} {v : Value} {es : List Ent} (h : RowE base w v es) : ∃ ao cap, v = .slice ao es.length cap := by
  obtain ⟨ao, cap, e, _⟩ := h.rd
  exact ⟨ao, cap, e⟩
theorem RowE.grownB {base : Nat} {w w' : World} {v : Value} {es : List Ent} {row : Option Nat} (h : RowE base w v es) (hg : w.grownBy w' row) (hr : ∀ g, row = some g → g < base ∨ w.heap.size ≤ g) : RowE base w' v es := h.kept hg (fun g hv e => by
  have := h.ge hv
  have := h.lt hv
  rcases hr g e with h1 | h1 <;> omega)
/-- The marks over the first k of the entries. -/
def LedM.overE (es : List Ent) (k : Nat) : List Ent := List.replicate k (mkE 3) ++ es.drop k
theorem over_len (es : List Ent) (k : Nat) (h : k ≤ es.length) : (overE es k).length = es.length := by simp [overE]; omega
theorem over_set (es : List Ent) (k : Nat) (h : k < es.length) : (overE es k).set k (mkE 3) = overE es (k + 1) := by
  unfold overE
  rw [drop_eN h, List.set_append_right _ _ (by simp)]
  simp [List.replicate_succ', List.append_assoc]

set_option maxRecDepth 20000 in
set_option maxHeartbeats 4000000 in
theorem reverses_any (es : List Ent) (v : Value) (w : World) (hl : es.length ≤ 1048576) (h : RdE w v es) :
    Calls Tryd.prog 5 #[v] w fun e w' => e = .returned (.bool true) ∧ Below w.heap.size w w' := by
  have MA : Hid (∀ w' v' fs, RdE w' v' fs → fs.length ≤ 1048576 → Calls Tryd.prog 11 #[v'] w' fun e w2 => ∃ v2, e = .returned v2 ∧ RowE w'.heap.size w2 v2 (fs ++ [mkE 1, mkE 2]) ∧ Below w'.heap.size w' w2) := fun w' v' fs hr h => marked_at fs v' w' (by omega) hr
  have RV : Hid (∀ w' v' fs, RdE w' v' fs → fs.length ≤ 1048576 → Calls Tryd.prog 4 #[v'] w' fun e w2 => ∃ v2, e = .returned v2 ∧ RowE w'.heap.size w2 v2 (revE fs) ∧ Below w'.heap.size w' w2) := fun w' v' fs hr h => rev_at fs v' w' (by omega) hr
  have RR : Hid (∀ w' v' fs, RdE w' v' fs → fs.length ≤ 1048576 → Calls Tryd.prog 12 #[v'] w' fun e w2 => ∃ v2, e = .returned v2 ∧ RowE w'.heap.size w2 v2 (revE fs) ∧ Below w'.heap.size w' w2) := fun w' v' fs hr h => rrev_at fs v' w' (by omega) hr
  have AL : Hid (∀ w' va vb fs, RdE w' va fs → RdE w' vb fs → fs.length ≤ 1048576 → Calls Tryd.prog 13 #[va, vb] w' fun e w2 => e = .returned (.bool true) ∧ Below w'.heap.size w' w2) := fun w' va vb fs h1 h2 h3 => (alike_yes fs va vb w' (by omega) h1 h2).mono fun e w2 ⟨a, n, b⟩ => ⟨a, by rw [b]; exact below_drewN (Below.refl _ _) n⟩
  have MK : Hid (∀ k w', 0 ≤ k → k ≤ 100 → Calls Tryd.prog 14 #[.int .i64 k] w' fun e w2 => e = .returned (.agg (entL (mkE k)).toArray) ∧ Below w'.heap.size w' w2) := fun k w' h0 h1 => mark_at k w' h0 h1
  have ST : Hid (∀ w' fs a c vl, RdE w' (.slice a (fs ++ [mkE 1, mkE 2]).length c) (fs ++ [mkE 1, mkE 2]) → RdE w' vl fs → fs.length ≤ 1048576 → Calls Tryd.prog 15 #[.slice a (fs ++ [mkE 1, mkE 2]).length c, vl] w' fun e w2 => e = .returned (.bool true) ∧ Below w'.heap.size w' w2) := fun w' fs a c vl h1 h2 h3 => still_yes fs a c vl w' (by omega) h1 h2
  have TU : Hid (∀ w' base g cap, RowE base w' (.slice (some ⟨g, 0, none⟩) (es ++ [mkE 1, mkE 2]).length cap) (es ++ [mkE 1, mkE 2]) → Calls Tryd.prog 16 #[.slice (some ⟨g, 0, none⟩) es.length cap] w' fun e w2 => ∃ v2, e = .returned v2 ∧ RowE w'.heap.size w2 v2 (es.map halfE) ∧ RowE base w2 (.slice (some ⟨g, 0, none⟩) (es ++ [mkE 1, mkE 2]).length cap) (es.map halfE ++ [mkE 1, mkE 2]) ∧ w'.grownBy w2 (some g)) := fun w' base g cap hr => turned_at es [mkE 1, mkE 2] base g cap w' (by omega) hr
  have RD : Hid (∀ w', Below w.heap.size w w' → RdE w' v es) := fun w' hb => h.later hb
  obtain ⟨av, capv, evl, _⟩ := id h
  obtain ⟨L, hL⟩ : ∃ L, es.length = L := ⟨_, rfl⟩
  have HL : Hid (es.length = L ∧ (revE es).length = L ∧ (es.map halfE).length = L ∧ es.length ≤ 1048576) := ⟨hL, by rw [revE_len]; exact hL, by rw [List.length_map]; exact hL, hl⟩
  have hM : (es ++ [mkE 1, mkE 2]).length = L + 2 := by rw [List.length_append, hL]; rfl
  rw [hM, hL] at TU
  rw [hL] at evl
  subst evl
  clear h
  go_enter Tryd.func5, Tryd.ntmps5
  go_wp2_with fail
  refine (MA.out _ _ es (RD.out _ (Below.refl _ _)) HL.out.2.2.2).mono ?_
  rintro e w1 ⟨vg, rfl, rg, b1⟩
  obtain ⟨g, cg, rfl, hcg⟩ := rg.shape (by simp)
  rw [hM] at rg hcg
  rw [hM]
  have sl := fun W => slice_hi (some ⟨g, 0, none⟩) (L + 2) cg L (by omega) W
  have RG1 : Hid (RowE w.heap.size w1 (.slice (some ⟨g, 0, none⟩) (L + 2) cg) (es ++ [mkE 1, mkE 2])) := rg
  have CUT : Hid (∀ w' fs, fs.length = L → RowE w.heap.size w' (.slice (some ⟨g, 0, none⟩) (L + 2) cg) (fs ++ [mkE 1, mkE 2]) → RdE w' (.slice (some ⟨g, 0, none⟩) L cg) fs) := fun w' fs hf hr => by have := hr.rd.take (k := L) (by omega); rwa [List.take_left' hf] at this
  have HG : Hid (w.heap.size ≤ g ∧ g < w1.heap.size) := ⟨rg.ge rfl, rg.lt rfl⟩
  have B1 : Hid (Below w.heap.size w w1) := b1
  have hlL : L ≤ 1048576 := by omega
  clear rg b1 hl
  go_wp2_with fail
  refine (RV.out _ _ es (CUT.out _ es HL.out.1 RG1.out) HL.out.2.2.2).mono ?_
  rintro e w2 ⟨vr, rfl, r2, b2⟩
  have R2 : Hid (RowE w1.heap.size w2 vr (revE es)) := r2
  have HR : Hid (∀ g', vr.ownBlock = some g' → w1.heap.size ≤ g' ∧ g' < w2.heap.size) := fun g' hg => ⟨r2.ge hg, r2.lt hg⟩
  have RG2 : Hid (RowE w.heap.size w2 (.slice (some ⟨g, 0, none⟩) (L + 2) cg) (es ++ [mkE 1, mkE 2])) := RG1.out.later b2
  have B2 : Hid (Below w.heap.size w w2 ∧ w1.heap.size ≤ w2.heap.size) := ⟨below_trans B1.out b2, b2.size⟩
  clear r2 b2 RG1 B1
  go_wp2_with fail
  refine (RV.out _ _ es (CUT.out _ es HL.out.1 RG2.out) HL.out.2.2.2).mono ?_
  rintro e w3 ⟨vs, rfl, r3, b3⟩
  have S3 : Hid (RowE w2.heap.size w3 vs (revE es)) := r3
  have R3 : Hid (RowE w1.heap.size w3 vr (revE es)) := R2.out.later b3
  have RG3 : Hid (RowE w.heap.size w3 (.slice (some ⟨g, 0, none⟩) (L + 2) cg) (es ++ [mkE 1, mkE 2])) := RG2.out.later b3
  have B3 : Hid (Below w.heap.size w w3 ∧ w2.heap.size ≤ w3.heap.size) := ⟨below_trans B2.out.1 b3, b3.size⟩
  clear r3 b3 R2 RG2
  go_wp2_with fail
  refine (RR.out _ _ es (RD.out _ B3.out.1) HL.out.2.2.2).mono ?_
  rintro e w4 ⟨vw, rfl, r4, b4⟩
  have W4 : Hid (RowE w3.heap.size w4 vw (revE es)) := r4
  have S4 : Hid (RowE w2.heap.size w4 vs (revE es)) := S3.out.later b4
  have R4 : Hid (RowE w1.heap.size w4 vr (revE es)) := R3.out.later b4
  have RG4 : Hid (RowE w.heap.size w4 (.slice (some ⟨g, 0, none⟩) (L + 2) cg) (es ++ [mkE 1, mkE 2])) := RG3.out.later b4
  have B4 : Hid (Below w.heap.size w w4 ∧ w3.heap.size ≤ w4.heap.size) := ⟨below_trans B3.out.1 b4, b4.size⟩
  clear r4 b4 R3 S3 RG3
  have LR : Hid ((revE es).length ≤ 1048576) := by have := HL.out; show _ ≤ _; omega
  go_wp2_with fail
  refine (AL.out _ _ _ (revE es) R4.out.rd W4.out.rd LR.out).mono ?_
  rintro e w5 ⟨rfl, b5⟩
  have W5 : Hid (RowE w3.heap.size w5 vw (revE es)) := W4.out.later b5
  have S5 : Hid (RowE w2.heap.size w5 vs (revE es)) := S4.out.later b5
  have R5 : Hid (RowE w1.heap.size w5 vr (revE es)) := R4.out.later b5
  have RG5 : Hid (RowE w.heap.size w5 (.slice (some ⟨g, 0, none⟩) (L + 2) cg) (es ++ [mkE 1, mkE 2])) := RG4.out.later b5
  have B5 : Hid (Below w.heap.size w w5 ∧ w4.heap.size ≤ w5.heap.size) := ⟨below_trans B4.out.1 b5, b5.size⟩
  clear b5 W4 S4 R4 RG4
  go_wp2_with fail
  refine (AL.out _ _ _ (revE es) S5.out.rd W5.out.rd LR.out).mono ?_
  rintro e w6 ⟨rfl, b6⟩
  have W6 : Hid (RowE w3.heap.size w6 vw (revE es)) := W5.out.later b6
  have S6 : Hid (RowE w2.heap.size w6 vs (revE es)) := S5.out.later b6
  have R6 : Hid (RowE w1.heap.size w6 vr (revE es)) := R5.out.later b6
  have RG6 : Hid (RowE w.heap.size w6 (.slice (some ⟨g, 0, none⟩) (L + 2) cg) (es ++ [mkE 1, mkE 2])) := RG5.out.later b6
  have B6 : Hid (Below w.heap.size w w6 ∧ w4.heap.size ≤ w6.heap.size) := ⟨below_trans B5.out.1 b6, by have := B5.out.2; have := b6.size; omega⟩
  clear b6 W5 S5 R5 RG5
  obtain ⟨ar, cr, rfl⟩ := R6.out.form
  rw [HL.out.2.1] at R6 HR ⊢
  go_wp2_with fail
  obtain ⟨aw, cw, ew⟩ := W6.out.form
  rw [HL.out.2.1] at ew
  subst ew
  have SZ : Hid (w.heap.size ≤ w1.heap.size ∧ w1.heap.size ≤ w2.heap.size ∧ w2.heap.size ≤ w3.heap.size ∧ w3.heap.size ≤ w4.heap.size) := ⟨by have := HG.out; omega, B2.out.2, B3.out.2, B4.out.2⟩
  have OV : Hid (∀ k, k < L → (overE (revE es) k).set k (mkE 3) = overE (revE es) (k + 1)) := fun k hk => over_set _ _ (by have := HL.out; omega)
  have OL : Hid (∀ k, k ≤ L → (overE (revE es) k).length = L) := fun k hk => by rw [over_len _ _ (by have := HL.out; omega)]; exact HL.out.2.1
  have O0 : Hid (overE (revE es) 0 = revE es) := by show _ = _; simp [overE]
  have STE : Hid (∀ w' fs vl, fs.length = L → RdE w' (.slice (some ⟨g, 0, none⟩) (L + 2) cg) (fs ++ [mkE 1, mkE 2]) → RdE w' vl fs → Calls Tryd.prog 15 #[(.slice (some ⟨g, 0, none⟩) (L + 2) cg), vl] w' fun e w2 => e = .returned (.bool true) ∧ Below w'.heap.size w' w2) := fun w' fs vl hf h1 h2 => by
    have hm : (fs ++ [mkE 1, mkE 2]).length = L + 2 := by rw [List.length_append, hf]; rfl
    have := ST.out w' fs (some ⟨g, 0, none⟩) cg vl (by rw [hm]; exact h1) h2 (by have := HL.out; omega)
    rwa [hm] at this
  clear ST MA B5 B4 B3 B2
  go_loopw [7] (fun vk wr => ∃ k : Nat, vk = .int .i64 (k : Int) ∧ k ≤ L ∧ RowE w1.heap.size wr (.slice ar L cr) (overE (revE es) k) ∧ RowE w2.heap.size wr vs (revE es) ∧ RowE w3.heap.size wr (.slice aw L cw) (revE es) ∧ RowE w.heap.size wr (.slice (some ⟨g, 0, none⟩) (L + 2) cg) (es ++ [mkE 1, mkE 2]) ∧ Below w.heap.size w wr ∧ w4.heap.size ≤ wr.heap.size) (fun vk _ => L - (intOf vk).toNat)
  case atStart => exact ⟨0, rfl, by omega, by rw [O0.out]; exact R6.out, S6.out, W6.out, RG6.out, B6.out.1, B6.out.2⟩
  case round =>
    clear R6 S6 W6 RG6 B6
    obtain ⟨k, rfl, hk, rr, rs, rw', rg, bb, sz⟩ := hrel
    by_cases hlt : (k : Int) < (L : Int)
    · obtain ⟨g2, c2, e2, hc2⟩ := rr.shape (by rw [OL.out k hk]; omega)
      rw [OL.out k hk] at e2 hc2
      injection e2 with e21 _ e23
      subst e21 e23
      have hg2 := HR.out g2 rfl
      have ALL : Hid (RowE w1.heap.size wr (.slice (some ⟨g2, 0, none⟩) L cr) (overE (revE es) k) ∧ RowE w2.heap.size wr vs (revE es) ∧ RowE w3.heap.size wr (.slice aw L cw) (revE es) ∧ RowE w.heap.size wr (.slice (some ⟨g, 0, none⟩) (L + 2) cg) (es ++ [mkE 1, mkE 2]) ∧ Below w.heap.size w wr ∧ w4.heap.size ≤ wr.heap.size) := ⟨rr, rs, rw', rg, bb, sz⟩
      have hkk : k < (overE (revE es) k).length := by rw [OL.out k hk]; omega
      have OK1 : Hid ((overE (revE es) k).set k (mkE 3) = overE (revE es) (k + 1) ∧ (overE (revE es) k).length = L ∧ k < (overE (revE es) k).length) := ⟨OV.out k (by omega), OL.out k hk, hkk⟩
      clear rr rs rw' rg bb sz hkk RV RR AL TU STE CUT RD OV OL
      generalize overE (revE es) k = ov at *
      go_wp2_with fail
      refine (MK.out 3 _ (by omega) (by omega)).mono ?_
      rintro e wm ⟨rfl, bm⟩
      obtain ⟨-, hbg, cur, nb, q1, q2, q3, q4⟩ := RowE.cur (ALL.out.1.later bm)
      obtain ⟨s1, s2⟩ := cur_set (k := k) (mkE 3) (by rw [q1]; omega) q2 OK1.out.2.2
      have NB : Hid (Blk g2 41 cur wm) := nb
      have FT : Hid (k * 3 + (entL (mkE 3)).length ≤ cur.length) := by show _ ≤ _; rw [q1, show (entL (mkE 3)).length = 3 from rfl]; have := OK1.out.2.2; omega
      have MKR : Hid (∀ w', Blk g2 41 (cur.take (k * 3) ++ entL (mkE 3) ++ cur.drop (k * 3 + (entL (mkE 3)).length)) w' → RowE w1.heap.size w' (.slice (some ⟨g2, 0, none⟩) L cr) (overE (revE es) (k + 1))) := fun w' hb => by
        have r := RowE.ofcur (base := w1.heap.size) (cap := cr) (es := ov.set k (mkE 3)) hb hbg (s1.trans q1) (by rw [List.length_set]; exact s2) (by rw [List.length_set]; exact q3) q4
        rw [List.length_set, OK1.out.2.1, OK1.out.1] at r
        exact r
      have ALM : Hid (RowE w2.heap.size wm vs (revE es) ∧ RowE w3.heap.size wm (.slice aw L cw) (revE es) ∧ RowE w.heap.size wm (.slice (some ⟨g, 0, none⟩) (L + 2) cg) (es ++ [mkE 1, mkE 2]) ∧ Below w.heap.size w wm ∧ w4.heap.size ≤ wm.heap.size) := ⟨ALL.out.2.1.later bm, ALL.out.2.2.1.later bm, ALL.out.2.2.2.1.later bm, below_trans ALL.out.2.2.2.2.1 bm, Nat.le_trans ALL.out.2.2.2.2.2 bm.size⟩
      clear ALL nb q1 q2 q3 q4 s1 s2 bm
      go_wp2_with (refine step_store rfl 41 _ _ rfl g2 (k * 3) 41 cur (entL (mkE 3)) rfl rfl NB.out FT.out (infoE _) (oneE _) ?_; intro wn nbn gn)
      go_roundw
      case rel =>
        have z := SZ.out
        have GK : RowE w.heap.size wn (.slice (some ⟨g, 0, none⟩) (L + 2) cg) (es ++ [mkE 1, mkE 2]) := ALM.out.2.2.1.kept gn (fun g' hg e => by
          have h1 : g = g' := Option.some.inj hg
          have h2 : g2 = g' := Option.some.inj e
          have := HG.out
          omega)
        first
          | exact ⟨k + 1, by go_num, by omega, MKR.out _ nbn, ALM.out.1.grownB gn (fun g' e => by cases e; exact .inl (by omega)), ALM.out.2.1.grownB gn (fun g' e => by cases e; exact .inl (by omega)), GK, ALM.out.2.2.2.1.grown gn ALM.out.2.2.2.1.size (fun g' e => by cases e; omega), Nat.le_trans ALM.out.2.2.2.2 gn.size⟩
          | ((repeat apply Exists.intro); exact ⟨⟨k + 1, by go_num, by omega, MKR.out _ nbn, ALM.out.1.grownB gn (fun g' e => by cases e; exact .inl (by omega)), ALM.out.2.1.grownB gn (fun g' e => by cases e; exact .inl (by omega)), GK, ALM.out.2.2.2.1.grown gn ALM.out.2.2.2.1.size (fun g' e => by cases e; omega), Nat.le_trans ALM.out.2.2.2.2 gn.size⟩, rfl⟩)
      case measure => simp [intOf]; omega
    · obtain rfl : k = L := by omega
      have RA : Hid (RowE w1.heap.size wr (.slice ar k cr) (overE (revE es) k) ∧ (overE (revE es) k).length = k) := ⟨rr, OL.out k hk⟩
      have ALL : Hid (RowE w2.heap.size wr vs (revE es) ∧ RowE w3.heap.size wr (.slice aw k cw) (revE es) ∧ RowE w.heap.size wr (.slice (some ⟨g, 0, none⟩) (k + 2) cg) (es ++ [mkE 1, mkE 2]) ∧ Below w.heap.size w wr ∧ w4.heap.size ≤ wr.heap.size) := ⟨rs, rw', rg, bb, sz⟩
      clear rr rs rw' rg bb sz OV OL O0 hlt
      generalize overE (revE es) k = ov at *
      have hel : ∀ e : Ent, (entL e).length = 3 := fun _ => rfl
      go_wp2_with fail
      refine (MK.out 4 _ (by omega) (by omega)).mono ?_
      rintro e wm ⟨rfl, bm⟩
      have RM : Hid (RowE w1.heap.size (wm.alloc (.cells (entL (mkE 4)).toArray 41)) (.slice ar k cr) ov) := (RA.out.1.later bm).later (below_alloc _ _)
      have bma := below_trans bm (below_alloc wm (.cells (entL (mkE 4)).toArray 41))
      have ALM : Hid (RowE w2.heap.size (wm.alloc (.cells (entL (mkE 4)).toArray 41)) vs (revE es) ∧ RowE w3.heap.size (wm.alloc (.cells (entL (mkE 4)).toArray 41)) (.slice aw k cw) (revE es) ∧ RowE w.heap.size (wm.alloc (.cells (entL (mkE 4)).toArray 41)) (.slice (some ⟨g, 0, none⟩) (k + 2) cg) (es ++ [mkE 1, mkE 2]) ∧ Below w.heap.size w (wm.alloc (.cells (entL (mkE 4)).toArray 41)) ∧ w4.heap.size ≤ (wm.alloc (.cells (entL (mkE 4)).toArray 41)).heap.size) := ⟨ALL.out.1.later bma, ALL.out.2.1.later bma, ALL.out.2.2.1.later bma, below_trans ALL.out.2.2.2.1 bma, Nat.le_trans ALL.out.2.2.2.2 bma.size⟩
      have OL1 : Hid (ov.length + [mkE 4].length ≤ 1000000000000 ∧ (ov ++ [mkE 4]).length = k + 1) := ⟨by rw [RA.out.2]; have := HL.out; simp; omega, by rw [List.length_append, RA.out.2]; rfl⟩
      have z := SZ.out
      have bsz : w1.heap.size ≤ (wm.alloc (.cells (entL (mkE 4)).toArray 41)).heap.size := by have := ALM.out.2.2.2.2; omega
      have BSZ : Hid (w1.heap.size ≤ (wm.alloc (.cells (entL (mkE 4)).toArray 41)).heap.size) := bsz
      clear ALL RA bm bma bsz
      go_wp2_with (at_builtin; refine wpList_catE rfl (.tmp 44) (.tmp 46) rfl w1.heap.size (.slice ar k cr) (.slice (some ⟨wm.heap.size, 0, none⟩) 1 1) ov [mkE 4] rfl RM.out BSZ.out rfl (RdE.one wm (mkE 4)) OL1.out.1 ?_; intro vl w7 r7 g7; obtain ⟨al, cl, el⟩ := RowE.form r7; rw [OL1.out.2] at el; subst el)
      have S7 : Hid (RowE w2.heap.size w7 vs (revE es)) := ALM.out.1.grownB g7 (fun g' e => .inl (HR.out g' e).2)
      have W7 : Hid (RowE w3.heap.size w7 (.slice aw k cw) (revE es)) := ALM.out.2.1.grownB g7 (fun g' e => by have := (HR.out g' e).2; exact .inl (by omega))
      have RG7 : Hid (RowE w.heap.size w7 (.slice (some ⟨g, 0, none⟩) (k + 2) cg) (es ++ [mkE 1, mkE 2])) := ALM.out.2.2.1.kept g7 (fun g' hg e => by
        have h1 : g = g' := Option.some.inj hg
        have := (HR.out g' e).1
        have := HG.out
        omega)
      have B7 : Hid (Below w.heap.size w w7 ∧ w4.heap.size ≤ w7.heap.size) := ⟨ALM.out.2.2.2.1.grown g7 ALM.out.2.2.2.1.size (fun g' e => by have := (HR.out g' e).1; omega), Nat.le_trans ALM.out.2.2.2.2 g7.size⟩
      clear r7 g7 RM ALM HR
      refine (AL.out _ _ _ (revE es) S7.out.rd W7.out.rd LR.out).mono ?_
      rintro e w8 ⟨rfl, b8⟩
      have S8 : Hid (RowE w2.heap.size w8 vs (revE es)) := S7.out.later b8
      have W8 : Hid (RowE w3.heap.size w8 (.slice aw k cw) (revE es)) := W7.out.later b8
      have RG8 : Hid (RowE w.heap.size w8 (.slice (some ⟨g, 0, none⟩) (k + 2) cg) (es ++ [mkE 1, mkE 2])) := RG7.out.later b8
      have B8 : Hid (Below w.heap.size w w8 ∧ w4.heap.size ≤ w8.heap.size) := ⟨below_trans B7.out.1 b8, Nat.le_trans B7.out.2 b8.size⟩
      clear S7 W7 RG7 B7 b8
      go_wp2_with fail
      refine (STE.out _ es _ HL.out.1 RG8.out.rd (RD.out _ B8.out.1)).mono ?_
      rintro e w9 ⟨rfl, b9⟩
      have S9 : Hid (RowE w2.heap.size w9 vs (revE es)) := S8.out.later b9
      have W9 : Hid (RowE w3.heap.size w9 (.slice aw k cw) (revE es)) := W8.out.later b9
      have RG9 : Hid (RowE w.heap.size w9 (.slice (some ⟨g, 0, none⟩) (k + 2) cg) (es ++ [mkE 1, mkE 2])) := RG8.out.later b9
      have B9 : Hid (Below w.heap.size w w9 ∧ w4.heap.size ≤ w9.heap.size) := ⟨below_trans B8.out.1 b9, Nat.le_trans B8.out.2 b9.size⟩
      clear S8 W8 RG8 B8 b9
      go_wp2_with fail
      refine (TU.out _ _ _ _ RG9.out).mono ?_
      rintro e w10 ⟨vo, rfl, ro, rg, gt⟩
      have O10 : Hid (RowE w9.heap.size w10 vo (es.map halfE)) := ro
      have RG10 : Hid (RowE w.heap.size w10 (.slice (some ⟨g, 0, none⟩) (k + 2) cg) (es.map halfE ++ [mkE 1, mkE 2])) := rg
      have S10 : Hid (RowE w2.heap.size w10 vs (revE es)) := S9.out.grownB gt (fun g' e => by cases e; have := HG.out; exact .inl (by omega))
      have W10 : Hid (RowE w3.heap.size w10 (.slice aw k cw) (revE es)) := W9.out.grownB gt (fun g' e => by cases e; have := HG.out; exact .inl (by omega))
      have B10 : Hid (Below w.heap.size w w10) := B9.out.1.grown gt B9.out.1.size (fun g' e => by cases e; exact HG.out.1)
      have LH : Hid ((es.map halfE).length ≤ 1048576 ∧ (revE (es.map halfE)).length ≤ 1048576) := by have := HL.out; show _ ∧ _; rw [revE_len]; omega
      obtain ⟨ao, co, eo⟩ := O10.out.form
      rw [HL.out.2.2.1] at eo
      subst eo
      clear S9 W9 RG9 B9 ro rg gt TU
      go_wp2_with fail
      refine (RV.out _ _ (es.map halfE) (CUT.out _ _ HL.out.2.2.1 RG10.out) LH.out.1).mono ?_
      rintro e w11 ⟨vq, rfl, rq, b11⟩
      have Q11 : Hid (RowE w10.heap.size w11 vq (revE (es.map halfE))) := rq
      have O11 : Hid (RowE w9.heap.size w11 (.slice ao k co) (es.map halfE)) := O10.out.later b11
      have RG11 : Hid (RowE w.heap.size w11 (.slice (some ⟨g, 0, none⟩) (k + 2) cg) (es.map halfE ++ [mkE 1, mkE 2])) := RG10.out.later b11
      have S11 : Hid (RowE w2.heap.size w11 vs (revE es)) := S10.out.later b11
      have W11 : Hid (RowE w3.heap.size w11 (.slice aw k cw) (revE es)) := W10.out.later b11
      have B11 : Hid (Below w.heap.size w w11) := below_trans B10.out b11
      clear rq b11 O10 RG10 S10 W10 B10 RV CUT
      go_wp2_with fail
      refine (RR.out _ _ (es.map halfE) O11.out.rd LH.out.1).mono ?_
      rintro e w12 ⟨vz, rfl, rz, b12⟩
      have Z12 : Hid (RowE w11.heap.size w12 vz (revE (es.map halfE))) := rz
      have Q12 : Hid (RowE w10.heap.size w12 vq (revE (es.map halfE))) := Q11.out.later b12
      have O12 : Hid (RowE w9.heap.size w12 (.slice ao k co) (es.map halfE)) := O11.out.later b12
      have RG12 : Hid (RowE w.heap.size w12 (.slice (some ⟨g, 0, none⟩) (k + 2) cg) (es.map halfE ++ [mkE 1, mkE 2])) := RG11.out.later b12
      have S12 : Hid (RowE w2.heap.size w12 vs (revE es)) := S11.out.later b12
      have W12 : Hid (RowE w3.heap.size w12 (.slice aw k cw) (revE es)) := W11.out.later b12
      have B12 : Hid (Below w.heap.size w w12) := below_trans B11.out b12
      clear rz b12 Q11 O11 RG11 S11 W11 B11 RR
      go_wp2_with fail
      refine (AL.out _ _ _ _ Q12.out.rd Z12.out.rd LH.out.2).mono ?_
      rintro e w13 ⟨rfl, b13⟩
      have O13 : Hid (RowE w9.heap.size w13 (.slice ao k co) (es.map halfE)) := O12.out.later b13
      have RG13 : Hid (RowE w.heap.size w13 (.slice (some ⟨g, 0, none⟩) (k + 2) cg) (es.map halfE ++ [mkE 1, mkE 2])) := RG12.out.later b13
      have S13 : Hid (RowE w2.heap.size w13 vs (revE es)) := S12.out.later b13
      have W13 : Hid (RowE w3.heap.size w13 (.slice aw k cw) (revE es)) := W12.out.later b13
      have B13 : Hid (Below w.heap.size w w13) := below_trans B12.out b13
      clear b13 O12 RG12 S12 W12 B12 Q12 Z12
      go_wp2_with fail
      refine (AL.out _ _ _ (revE es) S13.out.rd W13.out.rd LR.out).mono ?_
      rintro e w14 ⟨rfl, b14⟩
      have O14 : Hid (RowE w9.heap.size w14 (.slice ao k co) (es.map halfE)) := O13.out.later b14
      have RG14 : Hid (RowE w.heap.size w14 (.slice (some ⟨g, 0, none⟩) (k + 2) cg) (es.map halfE ++ [mkE 1, mkE 2])) := RG13.out.later b14
      have B14 : Hid (Below w.heap.size w w14) := below_trans B13.out b14
      clear b14 O13 RG13 S13 W13 B13
      go_wp2_with fail
      refine (STE.out _ (es.map halfE) _ HL.out.2.2.1 RG14.out.rd O14.out.rd).mono ?_
      rintro e w15 ⟨rfl, b15⟩
      have B15 : Hid (Below w.heap.size w w15) := below_trans B14.out b15
      go_wp2_with fail
      go_ret
      exact ⟨rfl, B15.out⟩
end Go.Proofs.YtacdnigeboeleaaDoor
