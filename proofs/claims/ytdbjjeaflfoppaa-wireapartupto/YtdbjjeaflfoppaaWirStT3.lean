/-
  Ours: the law's twinState (gen_wst6.py).
-/
import Derived.Test.YtdbjjeaflfoppaaWirStT2
namespace Go.Proofs.Ytdbjjeaflfoppaa
open Go.RowKit WsM

theorem ls_take {ls : List Ln} {k : Nat} (h : k < ls.length) : ls.take (k + 1) = ls.take k ++ [ls.getD k ln0] := by
  rw [List.take_add_one, List.getElem?_eq_getElem h, getD_at h]; rfl
set_option maxRecDepth 40000 in
set_option maxHeartbeats 2000000 in
/-- The twin of a portfolio: the same in new memory. -/
theorem twinState_at (p : Po) (vl vn : Value) (w : World) (h : RdPo w vl vn p) (hn : p.ls.length ≤ 100000000000) (hm : p.ns.length ≤ 100000000000) (hk : ∀ l ∈ p.ls, l.pl.length ≤ 1000000000000) :
    Calls Try.prog 14 #[.agg #[.int .i64 p.td, vl, vn]] w fun e w' => ∃ vl' vn', e = .returned (.agg #[.int .i64 p.td, vl', vn']) ∧ RdPo w' vl' vn' p ∧ Below w.heap.size w w' := by
  obtain ⟨iL, hiL, hzL0, hzL1, hzL2⟩ := info_parts infoL46
  obtain ⟨iN, hiN, hzN0, hzN1, hzN2⟩ := info_parts infoN6
  obtain ⟨td, ls, ns⟩ := p
  simp only at *
  have h1 : RdLs w vl ls := h.ls
  have h2 : RdS 6 w vn (ns.map ntL) := h.ns
  clear h
  have HL : Hid (∀ w', Below w.heap.size w w' → RdLs w' vl ls) := fun w' hb => h1.later hb
  have HN : Hid (∀ w', Below w.heap.size w w' → RdS 6 w' vn (ns.map ntL)) := fun w' hb => h2.later hb
  obtain ⟨na, nc, rfl, -, -⟩ := h2.len
  clear h2
  obtain ⟨nn, hnn⟩ : ∃ n, (ns.map ntL).length = n := ⟨_, rfl⟩
  rw [hnn] at HN ⊢
  obtain ⟨pvs0, hp1, hp2, -⟩ := h1
  obtain ⟨la, lc, rfl, -, -⟩ := hp2.len
  rw [zip_len hp1] at HL ⊢
  obtain ⟨L, hL⟩ : ∃ L, ls.length = L := ⟨_, rfl⟩
  have LE : Hid (∀ w', Below w.heap.size w w' → ∀ i, i < L → ∃ g o pv, la = some ⟨g, o, none⟩ ∧ w'.rangeAt g (o + i * 46) (lnL (ls.getD i ln0) pv) ∧ RdS 4 w' pv ((ls.getD i ln0).pl.map insL)) := fun w' hb i hi => by
    obtain ⟨pvs, q1, q2, q3⟩ := HL.out w' hb
    obtain ⟨ao', cap', e, _, _, H⟩ := q2
    injection e with e1 e2 e3
    subst e1
    obtain ⟨g, o, e, _, r⟩ := H i (by rw [zip_len q1]; omega)
    rw [getD_zip (by omega) q1] at r
    exact ⟨g, o, _, e, r, q3 i (by omega)⟩
  have HT : Hid (∀ i pv W, i < L → RdS 4 W pv ((ls.getD i ln0).pl.map insL) → Calls Try.prog 26 #[.agg (lnL (ls.getD i ln0) pv).toArray] W fun e w' => ∃ pv', e = .returned (.agg (lnL (ls.getD i ln0) pv').toArray) ∧ RdS 4 w' pv' ((ls.getD i ln0).pl.map insL) ∧ Below W.heap.size W w' ∧ ∀ g, pv'.ownBlock = some g → W.heap.size ≤ g ∧ g < w'.heap.size) := fun i pv W hi hr => twinLoan_at _ pv W hr (hk _ (getD_mem (by omega)))
  have TK : Hid (∀ k, k < L → ls.take (k + 1) = ls.take k ++ [ls.getD k ln0]) := fun k hk => ls_take (by omega)
  have TL0 : Hid (ls.take 0 = []) := rfl
  have TLn : Hid (∀ k, k ≤ L → (ls.take k).length = k) := fun k hk => by rw [List.length_take]; omega
  have TA : Hid (ls.take L = ls) := by show _ = _; rw [← hL, List.take_length]
  have HLn : Hid (L ≤ 100000000000) := by show _ ≤ _; omega
  have hLn : L ≤ 100000000000 := by omega
  have HNk : Hid (∀ c ∈ ns.map ntL, c.length = 6 ∧ ∀ u ∈ c, u.oneCell' = true) := fun c hc => by obtain ⟨i, _, rfl⟩ := List.mem_map.1 hc; exact ntL_one i
  have HNl : Hid ((ns.map ntL).length ≤ maxLen ∧ (ns.map ntL).length * 48 ≤ 140737488355328) := by
    show _ ∧ _
    rw [List.length_map]
    unfold maxLen
    omega
  rw [hL]
  have BX : Blk (w.heap.size) 32 [.int .i64 td, .slice la L lc, .slice na nn nc] ((w.alloc (.cells #[.int .i64 td, .slice la L lc, .slice na nn nc] 32)).alloc (.cells #[.int .i64 0, .slice none 0 0, .slice none 0 0] 32)) := (Blk.new 32 [.int .i64 td, .slice la L lc, .slice na nn nc] w).old _
  have BY : Blk (w.heap.size + 1) 32 [.int .i64 0, .slice none 0 0, .slice none 0 0] ((w.alloc (.cells #[.int .i64 td, .slice la L lc, .slice na nn nc] 32)).alloc (.cells #[.int .i64 0, .slice none 0 0, .slice none 0 0] 32)) := Blk.new2 32 _ w _
  have BB : Below w.heap.size w ((w.alloc (.cells #[.int .i64 td, .slice la L lc, .slice na nn nc] 32)).alloc (.cells #[.int .i64 0, .slice none 0 0, .slice none 0 0] 32)) := below_trans (below_alloc _ _) (below_alloc _ _)
  clear HL hk hp1 hp2 hn hm hnn hL
  go_enter Try.func14, Try.ntmps14
  go_upto_region 1 with fail
  generalize ((w.alloc (.cells #[.int .i64 td, .slice la L lc, .slice na nn nc] 32)).alloc (.cells #[.int .i64 0, .slice none 0 0, .slice none 0 0] 32)) = W0 at *
  obtain ⟨X, hX⟩ : ∃ X, w.heap.size = X := ⟨_, rfl⟩
  have HX : Hid (w.heap.size = X) := hX
  rw [hX] at BX BY ⊢
  have BX0 : Hid (Blk X 32 [.int .i64 td, .slice la L lc, .slice na nn nc] W0) := BX
  have BY0 : Hid (Blk (X + 1) 32 [.int .i64 0, .slice none 0 0, .slice none 0 0] W0) := BY
  have BW0 : Hid (Below w.heap.size w W0) := BB
  have cx1 := BX.cell 1 _ rfl
  clear BX BY BB hX
  go_wp2_with fail
  go_loopw [3, 4] (fun vx vk wr => ∃ (k : Nat) (vv : Value) (pvs : List Value), vv = vx ∧ vk = .int .i64 (k : Int) ∧ k ≤ L ∧ Hid (TwI (X + 2) wr vv (ls.take k) pvs) ∧ Hid (Blk X 32 [.int .i64 td, .slice la L lc, .slice na nn nc] wr) ∧ Hid (Blk (X + 1) 32 [.int .i64 0, .slice none 0 0, .slice none 0 0] wr) ∧ Hid (Below w.heap.size w wr)) (fun _ vk _ => L - (intOf vk).toNat)
  case atStart => exact ⟨0, _, [], rfl, rfl, by omega, by show TwI _ _ _ _ _; rw [TL0.out]; exact TwI.nil _ _, BX0.out, BY0.out, BW0.out⟩
  case round =>
    clear BX0 BY0 BW0 cx1
    obtain ⟨k, vv, pvs, rfl, rfl, hk, TW, BX, BY, BW⟩ := hrel
    have cx1 := BX.out.cell 1 _ rfl
    by_cases hlt : (k : Int) < (L : Int)
    · obtain ⟨g, o, pv, rfl, rg, rp⟩ := LE.out wr BW.out k (by omega)
      have RG : Hid (wr.rangeAt g (o + k * 46) (lnL (ls.getD k ln0) pv)) := rg
      have O1 : Hid ((lnL (ls.getD k ln0) pv).length = 46 ∧ ∀ u ∈ lnL (ls.getD k ln0) pv, u.oneCell' = true) := lnL_one rp.one
      have CT : Hid (Calls Try.prog 26 #[.agg (lnL (ls.getD k ln0) pv).toArray] wr fun e w' => ∃ pv', e = .returned (.agg (lnL (ls.getD k ln0) pv').toArray) ∧ RdS 4 w' pv' ((ls.getD k ln0).pl.map insL) ∧ Below wr.heap.size wr w' ∧ ∀ g, pv'.ownBlock = some g → wr.heap.size ≤ g ∧ g < w'.heap.size) := HT.out k pv wr (by omega) rp
      have TK1 : Hid (ls.take (k + 1) = ls.take k ++ [ls.getD k ln0]) := TK.out k (by omega)
      have LK : Hid ((ls.take k).length = k) := TLn.out k hk
      clear rg rp LE HT TK TLn
      generalize ls.getD k ln0 = l at *
      generalize ls.take k = l0 at *
      go_wp2_with ((with_reducible refine at_loadT 65 ?_); refine step_load rfl 65 _ rfl g (o + k * 46) rfl (lnL l pv) _ RG.out Try.underlying65 rfl (szLn O1.out.1) ?_)
      refine CT.out.mono ?_
      rintro e w2 ⟨pv2, rfl, r2, b2, o2⟩
      have T2 : Hid (TwI (X + 2) w2 vv l0 pvs) := TW.out.below b2
      have BX2 : Hid (Blk X 32 [.int .i64 td, .slice (some ⟨g, o, none⟩) L lc, .slice na nn nc] w2) := BX.out.below b2
      have BY2 : Hid (Blk (X + 1) 32 [.int .i64 0, .slice none 0 0, .slice none 0 0] w2) := BY.out.below b2
      have BW2 : Hid (Below w.heap.size w w2) := below_trans BW.out b2
      have R2 : Hid (RdS 4 w2 pv2 (l.pl.map insL)) := r2
      have SX : Hid (X + 1 < wr.heap.size) := BY.out.lt
      have P2 : Hid (∀ g, pv2.ownBlock = some g → vv.ownBlock ≠ some g ∧ g < w2.heap.size ∧ X + 2 ≤ g) := fun g hg => ⟨fun e => by have := TW.out.lt g e; have := o2 g hg; omega, (o2 g hg).2, by have := o2 g hg; have := SX.out; omega⟩
      have O2 : Hid ((lnL l pv2).length = 46 ∧ ∀ u ∈ lnL l pv2, u.oneCell' = true) := lnL_one r2.one
      have LZ : Hid ((List.zipWith lnL l0 pvs).length = k) := by show _ = _; rw [zip_len TW.out.len]; exact LK.out
      have LW : Hid ((List.zipWith lnL l0 pvs).length + 1 ≤ maxLen ∧ ((List.zipWith lnL l0 pvs).length + 1) * 384 ≤ 140737488355328) := by
        show _ ∧ _
        rw [LZ.out]
        have := HLn.out
        unfold maxLen
        omega
      clear r2 b2 o2 TW BX BY BW CT RG O1 cx1
      go_wp2_with (first | ((with_reducible refine at_slice ?_); refine step_slice1 rfl 29 65 _ rfl iL _ 46 (by decide) Try.underlying29 hiL hzL0 hzL1 (by decide) (lnL l pv2) O2.out.1 rfl ?_) | (at_builtin; refine wpList_pushS rfl (.tmp 13) (.tmp 20) 29 rfl 65 iL _ 46 384 Try.underlying29 hiL hzL0 hzL1 hzL2 rfl (by decide) vv (List.zipWith lnL l0 pvs) (lnL l pv2) rfl T2.out.row rfl O2.out.1 O2.out.2 LW.out.1 LW.out.2 ?_; intro v3 w3 row3 g3 o3))
      have T3 : TwI (X + 2) w3 v3 (l0 ++ [l]) (pvs ++ [pv2]) := T2.out.push (by have := SX.out; have := BW2.out.size; have := BY2.out.lt; omega) R2.out R2.out.one (fun g hg => (P2.out g hg).1) (fun g hg => (P2.out g hg).2.1) (fun g hg => (P2.out g hg).2.2) row3 g3 o3
      have nX : ∀ g, vv.ownBlock = some g → X + 2 ≤ g := T2.out.new
      have kp : ∀ G, G < X + 2 → ∀ cs, Blk G 32 cs w2 → Blk G 32 cs w3 := fun G hG cs hB => (g3.block G hB.lt (fun e => by have := nX G e.symm; omega)).trans hB
      have B3 : Below w.heap.size w w3 := BW2.out.grown g3 BW2.out.size (fun k e => by have := nX k e; have := HX.out; omega)
      go_roundw
      case rel => exact ⟨k + 1, v3, pvs ++ [pv2], rfl, by go_num, by omega, by show TwI _ _ _ _ _; rw [TK1.out]; exact T3, kp X (by omega) _ BX2.out, kp (X + 1) (by omega) _ BY2.out, B3⟩
      case measure => simp [intOf]; omega
    · obtain rfl : k = L := by omega
      rw [TA.out] at TW
      clear LE HT TK TLn
      obtain ⟨va, vc, ev, -, -⟩ := (owns_rd (zip_K ls pvs) TW.out.row).len
      generalize (List.zipWith lnL ls pvs).length = vn at ev
      subst ev
      have zx1 := BX.out.fz 1
      have ltx := BX.out.lt
      go_upto_region 8 with fail
      have g2 := setCell_grown wr X 1 (.slice va vn vc)
      have T2 : Hid (TwI (X + 2) (wr.setCell ⟨X, 1, none⟩ (.slice va vn vc)) (.slice va vn vc) ls pvs) := TW.out.row_grown g2 (by omega)
      have BX2 : Hid (Blk X 32 [.int .i64 td, .slice va vn vc, .slice na nn nc] (wr.setCell ⟨X, 1, none⟩ (.slice va vn vc))) := Blk.set (i := 1) BX.out (.slice va vn vc)
      have BY2 : Hid (Blk (X + 1) 32 [.int .i64 0, .slice none 0 0, .slice none 0 0] (wr.setCell ⟨X, 1, none⟩ (.slice va vn vc))) := BY.out.grown g2 (by omega)
      have BW2 : Hid (Below w.heap.size w (wr.setCell ⟨X, 1, none⟩ (.slice va vn vc))) := below_row BW.out g2 (by have := HX.out; omega)
      clear g2 TW BX BY BW cx1 zx1 ltx
      generalize wr.setCell ⟨X, 1, none⟩ (.slice va vn vc) = w2 at *
      have cx2 := BX2.out.cell 2 _ rfl
      have RN : Hid (RdS 6 w2 (.slice na nn nc) (ns.map ntL)) := HN.out w2 BW2.out
      clear HN
      obtain ⟨cs, hcs⟩ : ∃ c, c = ns.map ntL := ⟨_, rfl⟩
      have HCS : Hid (cs = ns.map ntL) := hcs
      rw [← hcs] at RN HNk HNl
      clear hcs
      go_upto_region 9 with (at_builtin; refine wpList_newS rfl (.tmp 24) (.tmp 26) 30 rfl 28 iN _ 6 48 Try.underlying30 hiN hzN0 hzN1 hzN2 rfl (by decide) _ cs rfl rfl RN.out HNk.out HNl.out.1 HNl.out.2 ?_; intro v3 w3 r3 b3 o3; obtain ⟨qa, qc, ev, -, -⟩ := r3.len; generalize cs.length = qn at ev; subst ev; have BX3 : Hid (Blk X 32 [.int .i64 td, .slice va vn vc, .slice na nn nc] w3) := BX2.out.below b3; have BY3 : Hid (Blk (X + 1) 32 [.int .i64 0, .slice none 0 0, .slice none 0 0] w3) := BY2.out.below b3; have BW3 : Hid (Below w.heap.size w w3) := below_trans BW2.out b3; have T3 : Hid (TwI (X + 2) w3 (.slice va vn vc) ls pvs) := T2.out.below b3; have R3 : Hid (RdS 6 w3 (.slice qa qn qc) cs) := r3; have O3 : Hid (∀ g, (Value.slice qa qn qc).ownBlock = some g → w2.heap.size ≤ g ∧ g < w3.heap.size) := o3; have c3 : w3.cell? ⟨X, 2, none⟩ = some (.slice na nn nc) := BX3.out.cell 2 _ rfl; have z3 : w3.frozen? ⟨X, 2, none⟩ = false := BX3.out.fz 2; have lt3 := BX3.out.lt; clear r3 b3 o3 cx2)
      have g4 := setCell_grown w3 X 2 (.slice qa qn qc)
      have LX : Hid (X + 1 < w2.heap.size) := BY2.out.lt
      have T4 : Hid (TwI (X + 2) (w3.setCell ⟨X, 2, none⟩ (.slice qa qn qc)) (.slice va vn vc) ls pvs) := T3.out.row_grown g4 (by omega)
      have BX4 : Hid (Blk X 32 [.int .i64 td, .slice va vn vc, .slice qa qn qc] (w3.setCell ⟨X, 2, none⟩ (.slice qa qn qc))) := Blk.set (i := 2) BX3.out (.slice qa qn qc)
      have BY4 : Hid (Blk (X + 1) 32 [.int .i64 0, .slice none 0 0, .slice none 0 0] (w3.setCell ⟨X, 2, none⟩ (.slice qa qn qc))) := BY3.out.grown g4 (by omega)
      have BW4 : Hid (Below w.heap.size w (w3.setCell ⟨X, 2, none⟩ (.slice qa qn qc))) := below_row BW3.out g4 (by have := HX.out; omega)
      have R4 : Hid (RdS 6 (w3.setCell ⟨X, 2, none⟩ (.slice qa qn qc)) (.slice qa qn qc) cs) := R3.out.grown g4 (fun g hg e => by have := O3.out g hg; have := LX.out; injection e with e; omega)
      have hv1 : (Value.slice va vn vc).oneCell' = true := rfl
      have HV : Hid (∀ u ∈ ([.int .i64 td, .slice va vn vc, .slice qa qn qc] : List Value), u.oneCell' = true) := fun u hu => by
        simp at hu
        rcases hu with rfl | rfl | rfl
        · rfl
        · exact hv1
        · rfl
      clear g4 BX3 BY3 BW3 T3 R3 c3 z3 lt3 hv1
      generalize w3.setCell ⟨X, 2, none⟩ (.slice qa qn qc) = w4 at *
      go_wp2_with (first
        | ((with_reducible refine at_loadT 32 ?_); refine step_load rfl 32 _ rfl X 0 rfl [.int .i64 td, .slice va vn vc, .slice qa qn qc] _ BX4.out.all Try.underlying32 rfl (sz3 _ _ _) ?_)
        | ((with_reducible refine at_store ?_); refine step_store rfl 32 _ _ rfl (X + 1) 0 32 [.int .i64 0, .slice none 0 0, .slice none 0 0] [.int .i64 td, .slice va vn vc, .slice qa qn qc] rfl rfl BY4.out (by simp) (sz3 _ _ _) HV.out ?_; intro w5 nb5 g5; rw [store_all (by simp)] at nb5))
      have T5 : TwI (X + 2) w5 (.slice va vn vc) ls pvs := T4.out.row_grown g5 (by omega)
      have R5 : RdS 6 w5 (.slice qa qn qc) cs := R4.out.grown g5 (fun g hg e => by have := O3.out g hg; have := LX.out; injection e with e; omega)
      have W5 : Below w.heap.size w w5 := below_row BW4.out g5 (by have := HX.out; omega)
      refine ret_blk rfl rfl (X + 1) 32 _ _ rfl nb5 Try.underlying32 rfl (sz3 _ _ _) ⟨_, _, rfl, ⟨T5.rd, ?_⟩, W5⟩
      exact HCS.out ▸ R5
end Go.Proofs.Ytdbjjeaflfoppaa
