/-
  Ours: notices and portfolios that came in, opened (gen_wst9.py).
-/
import Derived.Test.YtdbjjeaflfoppaaWirStT2
import Derived.Test.YtdbjjeaflfoppaaWirStS2
import Derived.Test.YtdbjjeaflfoppaaWirUsdR
import Derived.Test.YtdbjjeaflfoppaaWirPfx
import Derived.Test.YtdbjjeaflfoppaaWirStS
import Derived.Test.YtdbjjeaflfoppaaWirKD
import Derived.Test.YtdbjjeaflfoppaaWirRow
import Derived.Test.YtdbjjeaflfoppaaWirEncR
import Derived.ChangeArms
import Derived.Deep.Slices
namespace Go.Proofs.Ytdbjjeaflfoppaa
open Go.RowKit WsM

theorem ls_take {ls : List Ln} {k : Nat} (h : k < ls.length) : ls.take (k + 1) = ls.take k ++ [ls.getD k ln0] := by
  rw [List.take_add_one, List.getElem?_eq_getElem h, getD_at h]; rfl
set_option maxRecDepth 40000 in
set_option maxHeartbeats 2000000 in
/-- The twin of a portfolio: the same in new memory. -/
theorem twinState_at (p : Po) (vl vn : Value) (w : World) (h : RdPo w vl vn p) (hn : p.ls.length ≤ 100000000000) (hm : p.ns.length ≤ 100000000000) (hk : ∀ l ∈ p.ls, l.pl.length ≤ 1000000000000) :
    Calls Try.prog 14 #[.agg #[.int .i64 p.td, vl, vn]] w fun e w' => ∃ vl' vn', e = .returned (.agg #[.int .i64 p.td, vl', vn']) ∧ RdPo w' vl' vn' p ∧ Below w.heap.size w w' := by
  obtain ⟨iL, hiL, hzL0, hzL1, hzL2⟩ := info_parts infoL46
  obtain ⟨iN, hiN, hzN0, hzN1, hzN2⟩ := info_parts infoN6
  obtain ⟨td, ls, ns⟩ := p
  simp only at *
  have h1 : RdLs w vl ls := h.ls
  have h2 : RdS 6 w vn (ns.map ntL) := h.ns
  clear h
  have HL : Hid (∀ w', Below w.heap.size w w' → RdLs w' vl ls) := fun w' hb => h1.later hb
  have HN : Hid (∀ w', Below w.heap.size w w' → RdS 6 w' vn (ns.map ntL)) := fun w' hb => h2.later hb
  obtain ⟨na, nc, rfl, -, -⟩ := h2.len
  clear h2
  obtain ⟨nn, hnn⟩ : ∃ n, (ns.map ntL).length = n := ⟨_, rfl⟩
  rw [hnn] at HN ⊢
  obtain ⟨pvs0, hp1, hp2, -⟩ := h1
  obtain ⟨la, lc, rfl, -, -⟩ := hp2.len
  rw [zip_len hp1] at HL ⊢
  obtain ⟨L, hL⟩ : ∃ L, ls.length = L := ⟨_, rfl⟩
  have LE : Hid (∀ w', Below w.heap.size w w' → ∀ i, i < L → ∃ g o pv, la = some ⟨g, o, none⟩ ∧ w'.rangeAt g (o + i * 46) (lnL (ls.getD i ln0) pv) ∧ RdS 4 w' pv ((ls.getD i ln0).pl.map insL)) := fun w' hb i hi => by
    obtain ⟨pvs, q1, q2, q3⟩ := HL.out w' hb
    obtain ⟨ao', cap', e, _, _, H⟩ := q2
    injection e with e1 e2 e3
    subst e1
    obtain ⟨g, o, e, _, r⟩ := H i (by rw [zip_len q1]; omega)
    rw [getD_zip (by omega) q1] at r
    exact ⟨g, o, _, e, r, q3 i (by omega)⟩
  have HT : Hid (∀ i pv W, i < L → RdS 4 W pv ((ls.getD i ln0).pl.map insL) → Calls Try.prog 26 #[.agg (lnL (ls.getD i ln0) pv).toArray] W fun e w' => ∃ pv', e = .returned (.agg (lnL (ls.getD i ln0) pv').toArray) ∧ RdS 4 w' pv' ((ls.getD i ln0).pl.map insL) ∧ Below W.heap.size W w' ∧ ∀ g, pv'.ownBlock = some g → W.heap.size ≤ g ∧ g < w'.heap.size) := fun i pv W hi hr => twinLoan_at _ pv W hr (hk _ (getD_mem (by omega)))
  have TK : Hid (∀ k, k < L → ls.take (k + 1) = ls.take k ++ [ls.getD k ln0]) := fun k hk => ls_take (by omega)
  have TL0 : Hid (ls.take 0 = []) := rfl
  have TLn : Hid (∀ k, k ≤ L → (ls.take k).length = k) := fun k hk => by rw [List.length_take]; omega
  have TA : Hid (ls.take L = ls) := by show _ = _; rw [← hL, List.take_length]
  have HLn : Hid (L ≤ 100000000000) := by show _ ≤ _; omega
  have hLn : L ≤ 100000000000 := by omega
  have HNk : Hid (∀ c ∈ ns.map ntL, c.length = 6 ∧ ∀ u ∈ c, u.oneCell' = true) := fun c hc => by obtain ⟨i, _, rfl⟩ := List.mem_map.1 hc; exact ntL_one i
  have HNl : Hid ((ns.map ntL).length ≤ maxLen ∧ (ns.map ntL).length * 48 ≤ 140737488355328) := by
    show _ ∧ _
    rw [List.length_map]
    unfold maxLen
    omega
  rw [hL]
  have BX : Blk (w.heap.size) 32 [.int .i64 td, .slice la L lc, .slice na nn nc] ((w.alloc (.cells #[.int .i64 td, .slice la L lc, .slice na nn nc] 32)).alloc (.cells #[.int .i64 0, .slice none 0 0, .slice none 0 0] 32)) := (Blk.new 32 [.int .i64 td, .slice la L lc, .slice na nn nc] w).old _
  have BY : Blk (w.heap.size + 1) 32 [.int .i64 0, .slice none 0 0, .slice none 0 0] ((w.alloc (.cells #[.int .i64 td, .slice la L lc, .slice na nn nc] 32)).alloc (.cells #[.int .i64 0, .slice none 0 0, .slice none 0 0] 32)) := Blk.new2 32 _ w _
  have BB : Below w.heap.size w ((w.alloc (.cells #[.int .i64 td, .slice la L lc, .slice na nn nc] 32)).alloc (.cells #[.int .i64 0, .slice none 0 0, .slice none 0 0] 32)) := below_trans (below_alloc _ _) (below_alloc _ _)
  clear HL hk hp1 hp2 hn hm hnn hL
  go_enter Try.func14, Try.ntmps14
  go_upto_region 1 with fail
  generalize ((w.alloc (.cells #[.int .i64 td, .slice la L lc, .slice na nn nc] 32)).alloc (.cells #[.int .i64 0, .slice none 0 0, .slice none 0 0] 32)) = W0 at *
  obtain ⟨X, hX⟩ : ∃ X, w.heap.size = X := ⟨_, rfl⟩
  have HX : Hid (w.heap.size = X) := hX
  rw [hX] at BX BY ⊢
  have BX0 : Hid (Blk X 32 [.int .i64 td, .slice la L lc, .slice na nn nc] W0) := BX
  have BY0 : Hid (Blk (X + 1) 32 [.int .i64 0, .slice none 0 0, .slice none 0 0] W0) := BY
  have BW0 : Hid (Below w.heap.size w W0) := BB
  have cx1 := BX.cell 1 _ rfl
  clear BX BY BB hX
  go_wp2_with fail
  go_loopw [3, 4] (fun vx vk wr => ∃ (k : Nat) (vv : Value) (pvs : List Value), vv = vx ∧ vk = .int .i64 (k : Int) ∧ k ≤ L ∧ Hid (TwI (X + 2) wr vv (ls.take k) pvs) ∧ Hid (Blk X 32 [.int .i64 td, .slice la L lc, .slice na nn nc] wr) ∧ Hid (Blk (X + 1) 32 [.int .i64 0, .slice none 0 0, .slice none 0 0] wr) ∧ Hid (Below w.heap.size w wr)) (fun _ vk _ => L - (intOf vk).toNat)
  case atStart => exact ⟨0, _, [], rfl, rfl, by omega, by show TwI _ _ _ _ _; rw [TL0.out]; exact TwI.nil _ _, BX0.out, BY0.out, BW0.out⟩
  case round =>
    clear BX0 BY0 BW0 cx1
    obtain ⟨k, vv, pvs, rfl, rfl, hk, TW, BX, BY, BW⟩ := hrel
    have cx1 := BX.out.cell 1 _ rfl
    by_cases hlt : (k : Int) < (L : Int)
    · obtain ⟨g, o, pv, rfl, rg, rp⟩ := LE.out wr BW.out k (by omega)
      have RG : Hid (wr.rangeAt g (o + k * 46) (lnL (ls.getD k ln0) pv)) := rg
      have O1 : Hid ((lnL (ls.getD k ln0) pv).length = 46 ∧ ∀ u ∈ lnL (ls.getD k ln0) pv, u.oneCell' = true) := lnL_one rp.one
      have CT : Hid (Calls Try.prog 26 #[.agg (lnL (ls.getD k ln0) pv).toArray] wr fun e w' => ∃ pv', e = .returned (.agg (lnL (ls.getD k ln0) pv').toArray) ∧ RdS 4 w' pv' ((ls.getD k ln0).pl.map insL) ∧ Below wr.heap.size wr w' ∧ ∀ g, pv'.ownBlock = some g → wr.heap.size ≤ g ∧ g < w'.heap.size) := HT.out k pv wr (by omega) rp
      have TK1 : Hid (ls.take (k + 1) = ls.take k ++ [ls.getD k ln0]) := TK.out k (by omega)
      have LK : Hid ((ls.take k).length = k) := TLn.out k hk
      clear rg rp LE HT TK TLn
      generalize ls.getD k ln0 = l at *
      generalize ls.take k = l0 at *
      go_wp2_with ((with_reducible refine at_loadT 65 ?_); refine step_load rfl 65 _ rfl g (o + k * 46) rfl (lnL l pv) _ RG.out Try.underlying65 rfl (szLn O1.out.1) ?_)
      refine CT.out.mono ?_
      rintro e w2 ⟨pv2, rfl, r2, b2, o2⟩
      have T2 : Hid (TwI (X + 2) w2 vv l0 pvs) := TW.out.below b2
      have BX2 : Hid (Blk X 32 [.int .i64 td, .slice (some ⟨g, o, none⟩) L lc, .slice na nn nc] w2) := BX.out.below b2
      have BY2 : Hid (Blk (X + 1) 32 [.int .i64 0, .slice none 0 0, .slice none 0 0] w2) := BY.out.below b2
      have BW2 : Hid (Below w.heap.size w w2) := below_trans BW.out b2
      have R2 : Hid (RdS 4 w2 pv2 (l.pl.map insL)) := r2
      have SX : Hid (X + 1 < wr.heap.size) := BY.out.lt
      have P2 : Hid (∀ g, pv2.ownBlock = some g → vv.ownBlock ≠ some g ∧ g < w2.heap.size ∧ X + 2 ≤ g) := fun g hg => ⟨fun e => by have := TW.out.lt g e; have := o2 g hg; omega, (o2 g hg).2, by have := o2 g hg; have := SX.out; omega⟩
      have O2 : Hid ((lnL l pv2).length = 46 ∧ ∀ u ∈ lnL l pv2, u.oneCell' = true) := lnL_one r2.one
      have LZ : Hid ((List.zipWith lnL l0 pvs).length = k) := by show _ = _; rw [zip_len TW.out.len]; exact LK.out
      have LW : Hid ((List.zipWith lnL l0 pvs).length + 1 ≤ maxLen ∧ ((List.zipWith lnL l0 pvs).length + 1) * 384 ≤ 140737488355328) := by
        show _ ∧ _
        rw [LZ.out]
        have := HLn.out
        unfold maxLen
        omega
      clear r2 b2 o2 TW BX BY BW CT RG O1 cx1
      go_wp2_with (first | ((with_reducible refine at_slice ?_); refine step_slice1 rfl 29 65 _ rfl iL _ 46 (by decide) Try.underlying29 hiL hzL0 hzL1 (by decide) (lnL l pv2) O2.out.1 rfl ?_) | (at_builtin; refine wpList_pushS rfl (.tmp 13) (.tmp 20) 29 rfl 65 iL _ 46 384 Try.underlying29 hiL hzL0 hzL1 hzL2 rfl (by decide) vv (List.zipWith lnL l0 pvs) (lnL l pv2) rfl T2.out.row rfl O2.out.1 O2.out.2 LW.out.1 LW.out.2 ?_; intro v3 w3 row3 g3 o3))
      have T3 : TwI (X + 2) w3 v3 (l0 ++ [l]) (pvs ++ [pv2]) := T2.out.push (by have := SX.out; have := BW2.out.size; have := BY2.out.lt; omega) R2.out R2.out.one (fun g hg => (P2.out g hg).1) (fun g hg => (P2.out g hg).2.1) (fun g hg => (P2.out g hg).2.2) row3 g3 o3
      have nX : ∀ g, vv.ownBlock = some g → X + 2 ≤ g := T2.out.new
      have kp : ∀ G, G < X + 2 → ∀ cs, Blk G 32 cs w2 → Blk G 32 cs w3 := fun G hG cs hB => (g3.block G hB.lt (fun e => by have := nX G e.symm; omega)).trans hB
      have B3 : Below w.heap.size w w3 := BW2.out.grown g3 BW2.out.size (fun k e => by have := nX k e; have := HX.out; omega)
      go_roundw
      case rel => exact ⟨k + 1, v3, pvs ++ [pv2], rfl, by go_num, by omega, by show TwI _ _ _ _ _; rw [TK1.out]; exact T3, kp X (by omega) _ BX2.out, kp (X + 1) (by omega) _ BY2.out, B3⟩
      case measure => simp [intOf]; omega
    · obtain rfl : k = L := by omega
      rw [TA.out] at TW
      clear LE HT TK TLn
      obtain ⟨va, vc, ev, -, -⟩ := (owns_rd (zip_K ls pvs) TW.out.row).len
      generalize (List.zipWith lnL ls pvs).length = vn at ev
      subst ev
      have zx1 := BX.out.fz 1
      have ltx := BX.out.lt
      go_upto_region 8 with fail
      have g2 := setCell_grown wr X 1 (.slice va vn vc)
      have T2 : Hid (TwI (X + 2) (wr.setCell ⟨X, 1, none⟩ (.slice va vn vc)) (.slice va vn vc) ls pvs) := TW.out.row_grown g2 (by omega)
      have BX2 : Hid (Blk X 32 [.int .i64 td, .slice va vn vc, .slice na nn nc] (wr.setCell ⟨X, 1, none⟩ (.slice va vn vc))) := Blk.set (i := 1) BX.out (.slice va vn vc)
      have BY2 : Hid (Blk (X + 1) 32 [.int .i64 0, .slice none 0 0, .slice none 0 0] (wr.setCell ⟨X, 1, none⟩ (.slice va vn vc))) := BY.out.grown g2 (by omega)
      have BW2 : Hid (Below w.heap.size w (wr.setCell ⟨X, 1, none⟩ (.slice va vn vc))) := below_row BW.out g2 (by have := HX.out; omega)
      clear g2 TW BX BY BW cx1 zx1 ltx
      generalize wr.setCell ⟨X, 1, none⟩ (.slice va vn vc) = w2 at *
      have cx2 := BX2.out.cell 2 _ rfl
      have RN : Hid (RdS 6 w2 (.slice na nn nc) (ns.map ntL)) := HN.out w2 BW2.out
      clear HN
      obtain ⟨cs, hcs⟩ : ∃ c, c = ns.map ntL := ⟨_, rfl⟩
      have HCS : Hid (cs = ns.map ntL) := hcs
      rw [← hcs] at RN HNk HNl
      clear hcs
      go_upto_region 9 with (at_builtin; refine wpList_newS rfl (.tmp 24) (.tmp 26) 30 rfl 28 iN _ 6 48 Try.underlying30 hiN hzN0 hzN1 hzN2 rfl (by decide) _ cs rfl rfl RN.out HNk.out HNl.out.1 HNl.out.2 ?_; intro v3 w3 r3 b3 o3; obtain ⟨qa, qc, ev, -, -⟩ := r3.len; generalize cs.length = qn at ev; subst ev; have BX3 : Hid (Blk X 32 [.int .i64 td, .slice va vn vc, .slice na nn nc] w3) := BX2.out.below b3; have BY3 : Hid (Blk (X + 1) 32 [.int .i64 0, .slice none 0 0, .slice none 0 0] w3) := BY2.out.below b3; have BW3 : Hid (Below w.heap.size w w3) := below_trans BW2.out b3; have T3 : Hid (TwI (X + 2) w3 (.slice va vn vc) ls pvs) := T2.out.below b3; have R3 : Hid (RdS 6 w3 (.slice qa qn qc) cs) := r3; have O3 : Hid (∀ g, (Value.slice qa qn qc).ownBlock = some g → w2.heap.size ≤ g ∧ g < w3.heap.size) := o3; have c3 : w3.cell? ⟨X, 2, none⟩ = some (.slice na nn nc) := BX3.out.cell 2 _ rfl; have z3 : w3.frozen? ⟨X, 2, none⟩ = false := BX3.out.fz 2; have lt3 := BX3.out.lt; clear r3 b3 o3 cx2)
      have g4 := setCell_grown w3 X 2 (.slice qa qn qc)
      have LX : Hid (X + 1 < w2.heap.size) := BY2.out.lt
      have T4 : Hid (TwI (X + 2) (w3.setCell ⟨X, 2, none⟩ (.slice qa qn qc)) (.slice va vn vc) ls pvs) := T3.out.row_grown g4 (by omega)
      have BX4 : Hid (Blk X 32 [.int .i64 td, .slice va vn vc, .slice qa qn qc] (w3.setCell ⟨X, 2, none⟩ (.slice qa qn qc))) := Blk.set (i := 2) BX3.out (.slice qa qn qc)
      have BY4 : Hid (Blk (X + 1) 32 [.int .i64 0, .slice none 0 0, .slice none 0 0] (w3.setCell ⟨X, 2, none⟩ (.slice qa qn qc))) := BY3.out.grown g4 (by omega)
      have BW4 : Hid (Below w.heap.size w (w3.setCell ⟨X, 2, none⟩ (.slice qa qn qc))) := below_row BW3.out g4 (by have := HX.out; omega)
      have R4 : Hid (RdS 6 (w3.setCell ⟨X, 2, none⟩ (.slice qa qn qc)) (.slice qa qn qc) cs) := R3.out.grown g4 (fun g hg e => by have := O3.out g hg; have := LX.out; injection e with e; omega)
      have hv1 : (Value.slice va vn vc).oneCell' = true := rfl
      have HV : Hid (∀ u ∈ ([.int .i64 td, .slice va vn vc, .slice qa qn qc] : List Value), u.oneCell' = true) := fun u hu => by
        simp at hu
        rcases hu with rfl | rfl | rfl
        · rfl
        · exact hv1
        · rfl
      clear g4 BX3 BY3 BW3 T3 R3 c3 z3 lt3 hv1
      generalize w3.setCell ⟨X, 2, none⟩ (.slice qa qn qc) = w4 at *
      go_wp2_with (first
        | ((with_reducible refine at_loadT 32 ?_); refine step_load rfl 32 _ rfl X 0 rfl [.int .i64 td, .slice va vn vc, .slice qa qn qc] _ BX4.out.all Try.underlying32 rfl (sz3 _ _ _) ?_)
        | ((with_reducible refine at_store ?_); refine step_store rfl 32 _ _ rfl (X + 1) 0 32 [.int .i64 0, .slice none 0 0, .slice none 0 0] [.int .i64 td, .slice va vn vc, .slice qa qn qc] rfl rfl BY4.out (by simp) (sz3 _ _ _) HV.out ?_; intro w5 nb5 g5; rw [store_all (by simp)] at nb5))
      have T5 : TwI (X + 2) w5 (.slice va vn vc) ls pvs := T4.out.row_grown g5 (by omega)
      have R5 : RdS 6 w5 (.slice qa qn qc) cs := R4.out.grown g5 (fun g hg e => by have := O3.out g hg; have := LX.out; injection e with e; omega)
      have W5 : Below w.heap.size w w5 := below_row BW4.out g5 (by have := HX.out; omega)
      refine ret_blk rfl rfl (X + 1) 32 _ _ rfl nb5 Try.underlying32 rfl (sz3 _ _ _) ⟨_, _, rfl, ⟨T5.rd, ?_⟩, W5⟩
      exact HCS.out ▸ R5
end Go.Proofs.Ytdbjjeaflfoppaa

namespace Go.Proofs.Ytdbjjeaflfoppaa
open Go.RowKit WsM

def nt0 : Nt := ⟨[], false⟩
theorem ext_D {α : Type} {d : α} {xs ys : List α} {L : Nat} (h1 : xs.length = L) (h2 : ys.length = L) (h : ∀ j, j < L → xs.getD j d = ys.getD j d) : xs = ys := by
  apply List.ext_getElem (by omega)
  intro i h3 h4
  have := h i (by omega)
  rwa [getD_at h3, getD_at h4] at this
theorem RdLs.at {w : World} {a : Option Addr} {n c : Nat} {ls : List Ln} (h : RdLs w (.slice a n c) ls) (i : Nat) (hi : i < ls.length) : ∃ g o pv, a = some ⟨g, o, none⟩ ∧ w.rangeAt g (o + i * 46) (lnL (ls.getD i ln0) pv) ∧ RdS 4 w pv ((ls.getD i ln0).pl.map insL) := by
  obtain ⟨pvs, q1, q2, q3⟩ := h
  obtain ⟨ao', cap', e, _, _, H⟩ := q2
  injection e with e1 e2 e3
  subst e1
  obtain ⟨g, o, e, _, r⟩ := H i (by rw [zip_len q1]; omega)
  rw [getD_zip (by omega) q1] at r
  exact ⟨g, o, _, e, r, q3 i (by omega)⟩
theorem RdS.at {K : Nat} {w : World} {a : Option Addr} {n c : Nat} {cs : List (List Value)} (h : RdS K w (.slice a n c) cs) (i : Nat) (hi : i < cs.length) : ∃ g o, a = some ⟨g, o, none⟩ ∧ w.rangeAt g (o + i * K) (cs.getD i []) := by
  obtain ⟨ao', cap', e, _, _, H⟩ := h
  injection e with e1 e2 e3
  subst e1
  obtain ⟨g, o, e, _, r⟩ := H i hi
  exact ⟨g, o, e, r⟩
theorem range_up {w w' : World} {g o : Nat} {C : List Value} (h : w.rangeAt g o C) (hC : 0 < C.length) (hb : Below w.heap.size w w') : w'.rangeAt g o C := by
  have lt : g < w.heap.size := by
    have := h 0 _ (List.getElem?_eq_getElem hC)
    exact World.block_lt_of_cell? w _ this
  exact fun j u hj => (hb.cell (p := ⟨g, o + j, none⟩) lt).trans (h j u hj)
set_option maxRecDepth 40000 in
set_option maxHeartbeats 4000000 in
theorem sameState_at (p q : Po) (ok : p.Ok) (ok' : q.Ok) (vl vn vl' vn' : Value) (w : World) (hl : p.ls.length ≤ 1000000000000) (hm : p.ns.length ≤ 1000000000000) (hk : ∀ l ∈ p.ls, l.pl.length ≤ 1000000000000) (h : RdPo w vl vn p) (h' : RdPo w vl' vn' q) :
    Calls Try.prog 15 #[.agg #[.int .i64 p.td, vl, vn], .agg #[.int .i64 q.td, vl', vn']] w fun e w' => AnsB (p = q) e ∧ Below w.heap.size w w' := by
  obtain ⟨td, ls, ns⟩ := p
  obtain ⟨td', ls', ns'⟩ := q
  have h1 : RdLs w vl ls := h.ls
  have h2 : RdS 6 w vn (ns.map ntL) := h.ns
  have h1' : RdLs w vl' ls' := h'.ls
  have h2' : RdS 6 w vn' (ns'.map ntL) := h'.ns
  have ol : ∀ l ∈ ls, l.Ok := ok.ls
  have ol' : ∀ l ∈ ls', l.Ok := ok'.ls
  have on : ∀ n ∈ ns, n.Ok := ok.ns
  have on' : ∀ n ∈ ns', n.Ok := ok'.ns
  simp only at hl hm hk ⊢
  clear h h' ok ok'
  obtain ⟨PQ, HPQ⟩ : ∃ PQ : Prop, PQ = ((⟨td, ls, ns⟩ : Po) = ⟨td', ls', ns'⟩) := ⟨_, rfl⟩
  rw [← HPQ]
  have HP : Hid (PQ ↔ td = td' ∧ ls = ls' ∧ ns = ns') := by
    show _ ↔ _
    rw [HPQ]
    exact ⟨fun e => by injection e with a b c; exact ⟨a, b, c⟩, fun ⟨a, b, c⟩ => by rw [a, b, c]⟩
  clear HPQ
  obtain ⟨na, nc, rfl, -, -⟩ := h2.len
  obtain ⟨na', nc', rfl, -, -⟩ := h2'.len
  obtain ⟨la, lc, rfl⟩ : ∃ a c, vl = .slice a ls.length c := by
    obtain ⟨pvs, q1, q2, -⟩ := h1
    obtain ⟨a, c, e, -, -⟩ := q2.len
    rw [zip_len q1] at e
    exact ⟨a, c, e⟩
  obtain ⟨la', lc', rfl⟩ : ∃ a c, vl' = .slice a ls'.length c := by
    obtain ⟨pvs, q1, q2, -⟩ := h1'
    obtain ⟨a, c, e, -, -⟩ := q2.len
    rw [zip_len q1] at e
    exact ⟨a, c, e⟩
  simp only [List.length_map] at h2 h2' ⊢
  obtain ⟨L, hL⟩ : ∃ L, ls.length = L := ⟨_, rfl⟩
  obtain ⟨L', hL'⟩ : ∃ L, ls'.length = L := ⟨_, rfl⟩
  obtain ⟨M, hM⟩ : ∃ L, ns.length = L := ⟨_, rfl⟩
  obtain ⟨M', hM'⟩ : ∃ L, ns'.length = L := ⟨_, rfl⟩
  rw [hL] at h1 hl ⊢
  rw [hM] at h2 hm ⊢
  rw [hL'] at h1' ⊢
  rw [hM'] at h2' ⊢
  have LE : Hid (∀ i, i < L → ∃ g o pv, la = some ⟨g, o, none⟩ ∧ w.rangeAt g (o + i * 46) (lnL (ls.getD i ln0) pv) ∧ RdS 4 w pv ((ls.getD i ln0).pl.map insL)) := fun i hi => h1.at i (by omega)
  have LE' : Hid (∀ i, i < L' → ∃ g o pv, la' = some ⟨g, o, none⟩ ∧ w.rangeAt g (o + i * 46) (lnL (ls'.getD i ln0) pv) ∧ RdS 4 w pv ((ls'.getD i ln0).pl.map insL)) := fun i hi => h1'.at i (by omega)
  have NE : Hid (∀ i, i < M → ∃ g o, na = some ⟨g, o, none⟩ ∧ w.rangeAt g (o + i * 6) (ntL (ns.getD i nt0))) := fun i hi => by
    have := h2.at i (by rw [List.length_map]; omega)
    rwa [getD_map (d := nt0) (by omega)] at this
  have NE' : Hid (∀ i, i < M' → ∃ g o, na' = some ⟨g, o, none⟩ ∧ w.rangeAt g (o + i * 6) (ntL (ns'.getD i nt0))) := fun i hi => by
    have := h2'.at i (by rw [List.length_map]; omega)
    rwa [getD_map (d := nt0) (by omega)] at this
  have SL : Hid (∀ i pv qv W, i < L → i < L' → RdS 4 w pv ((ls.getD i ln0).pl.map insL) → RdS 4 w qv ((ls'.getD i ln0).pl.map insL) → Below w.heap.size w W → Calls Try.prog 28 #[.agg (lnL (ls.getD i ln0) pv).toArray, .agg (lnL (ls'.getD i ln0) qv).toArray] W fun e w' => AnsB (ls.getD i ln0 = ls'.getD i ln0) e ∧ Below W.heap.size W w') := fun i pv qv W a1 a2 r1 r2 hb => sameLoan_at _ _ (ol _ (getD_mem (by omega))) (ol' _ (getD_mem (by omega))) pv qv W (hk _ (getD_mem (by omega))) (r1.later hb) (r2.later hb)
  have NQ : Hid (∀ i, i < M → i < M' → ∃ r : Bool, EqR 28 (ntL (ns.getD i nt0)) (ntL (ns'.getD i nt0)) r ∧ (r = true ↔ ns.getD i nt0 = ns'.getD i nt0)) := fun i a1 a2 => eqNt _ _ (on _ (getD_mem (by omega))) (on' _ (getD_mem (by omega)))
  have HLL : Hid (ls.length = L ∧ ls'.length = L' ∧ ns.length = M ∧ ns'.length = M') := ⟨hL, hL', hM, hM'⟩
  have hu := Try.underlying65
  have huN := Try.underlying28
  have hgd : Try.prog.eqGuardType Try.prog.depth 28 = false := by kernel_rfl
  have BX : Hid (Blk w.heap.size 32 [.int .i64 td, .slice la L lc, .slice na M nc] ((w.alloc (.cells #[.int .i64 td, .slice la L lc, .slice na M nc] 32)).alloc (.cells #[.int .i64 td', .slice la' L' lc', .slice na' M' nc'] 32))) := (Blk.new 32 _ w).old _
  have BY : Hid (Blk (w.heap.size + 1) 32 [.int .i64 td', .slice la' L' lc', .slice na' M' nc'] ((w.alloc (.cells #[.int .i64 td, .slice la L lc, .slice na M nc] 32)).alloc (.cells #[.int .i64 td', .slice la' L' lc', .slice na' M' nc'] 32))) := Blk.new2 32 _ w _
  have BW : Hid (Below w.heap.size w ((w.alloc (.cells #[.int .i64 td, .slice la L lc, .slice na M nc] 32)).alloc (.cells #[.int .i64 td', .slice la' L' lc', .slice na' M' nc'] 32))) := below_trans (below_alloc _ _) (below_alloc _ _)
  clear h1 h2 h1' h2' ol ol' on on' hk hL hL' hM hM'
  go_enter Try.func15, Try.ntmps15
  go_upto_region 1 with fail
  generalize ((w.alloc (.cells #[.int .i64 td, .slice la L lc, .slice na M nc] 32)).alloc (.cells #[.int .i64 td', .slice la' L' lc', .slice na' M' nc'] 32)) = W0 at *
  obtain ⟨X, hX⟩ : ∃ X, w.heap.size = X := ⟨_, rfl⟩
  rw [hX] at BX BY ⊢
  have HXX : Hid (w.heap.size = X) := hX
  clear hX
  have c0 := BX.out.cell 0 _ rfl
  have c1 := BX.out.cell 1 _ rfl
  have c2 := BX.out.cell 2 _ rfl
  have d0 := BY.out.cell 0 _ rfl
  have d1 := BY.out.cell 1 _ rfl
  have d2 := BY.out.cell 2 _ rfl
  by_cases et : td = td'
  case neg =>
    have a0 : (td != td') = true := by simpa using et
    have HN : Hid (¬ PQ) := fun e => et (HP.out.1 e).1
    go_wp2_with fail
    go_ret
    exact ⟨AnsB.no HN.out, BW.out⟩
  subst et
  have a0 : (td != td) = false := by simp
  by_cases eL : (L : Int) = (L' : Int)
  case neg =>
    have a1 : ((L : Int) != (L' : Int)) = true := by simpa using eL
    have HN : Hid (¬ PQ) := fun e => eL (by rw [← HLL.out.1, ← HLL.out.2.1, (HP.out.1 e).2.1])
    go_wp2_with fail
    go_ret
    exact ⟨AnsB.no HN.out, BW.out⟩
  obtain rfl : L = L' := by omega
  have a1 : ((L : Int) != (L : Int)) = false := by simp
  by_cases eM : (M : Int) = (M' : Int)
  case neg =>
    have a2 : ((M : Int) != (M' : Int)) = true := by simpa using eM
    have HN : Hid (¬ PQ) := fun e => eM (by rw [← HLL.out.2.2.1, ← HLL.out.2.2.2, (HP.out.1 e).2.2])
    go_wp2_with fail
    go_ret
    exact ⟨AnsB.no HN.out, BW.out⟩
  obtain rfl : M = M' := by omega
  have a2 : ((M : Int) != (M : Int)) = false := by simp
  clear eL eM
  go_wp2_with fail
  go_loopw [5] (fun vk wr => ∃ (k : Nat), vk = .int .i64 (k : Int) ∧ k ≤ L ∧ Hid (∀ j, j < k → ls.getD j ln0 = ls'.getD j ln0) ∧ Hid (Blk X 32 [.int .i64 td, .slice la L lc, .slice na M nc] wr) ∧ Hid (Blk (X + 1) 32 [.int .i64 td, .slice la' L lc', .slice na' M nc'] wr) ∧ Hid (Below w.heap.size w wr)) (fun vk _ => L - (intOf vk).toNat)
  case atStart => exact ⟨0, rfl, by omega, (fun j hj => by omega), BX.out, BY.out, BW.out⟩
  case round =>
    clear BX BY BW c0 c1 c2 d0 d1 d2 a0 a1 a2
    obtain ⟨k, rfl, hk, EQ, BX, BY, BW⟩ := hrel
    have c1 := BX.out.cell 1 _ rfl
    have d1 := BY.out.cell 1 _ rfl
    by_cases hlt : (k : Int) < (L : Int)
    · obtain ⟨g, o, pv, rfl, rg, rp⟩ := LE.out k (by omega)
      obtain ⟨g', o', qv, rfl, rg', rp'⟩ := LE'.out k (by omega)
      have LR : Hid (∀ w', Below w.heap.size w w' → w'.rangeAt g (o + k * 46) (lnL (ls.getD k ln0) pv)) := fun w' hb => range_up rg (by show 0 < 46; decide) hb
      have LR' : Hid (∀ w', Below w.heap.size w w' → w'.rangeAt g' (o' + k * 46) (lnL (ls'.getD k ln0) qv)) := fun w' hb => range_up rg' (by show 0 < 46; decide) hb
      have HC : Hid ((lnL (ls.getD k ln0) pv).length = 46 ∧ ∀ u ∈ lnL (ls.getD k ln0) pv, u.oneCell' = true) := lnL_one rp.one
      have HC' : Hid ((lnL (ls'.getD k ln0) qv).length = 46 ∧ ∀ u ∈ lnL (ls'.getD k ln0) qv, u.oneCell' = true) := lnL_one rp'.one
      have SC0 : Hid (∀ W, Below w.heap.size w W → Calls Try.prog 28 #[.agg (lnL (ls.getD k ln0) pv).toArray, .agg (lnL (ls'.getD k ln0) qv).toArray] W fun e w' => AnsB (ls.getD k ln0 = ls'.getD k ln0) e ∧ Below W.heap.size W w') := fun W hb => SL.out k pv qv W (by omega) (by omega) rp rp' hb
      obtain ⟨C, hC⟩ : ∃ C, C = lnL (ls.getD k ln0) pv := ⟨_, rfl⟩
      obtain ⟨C', hC'⟩ : ∃ C, C = lnL (ls'.getD k ln0) qv := ⟨_, rfl⟩
      rw [← hC] at LR HC SC0
      rw [← hC'] at LR' HC' SC0
      clear hC hC' rg rg' rp rp' LE LE' SL NE NE' NQ
      by_cases hq : ls.getD k ln0 = ls'.getD k ln0
      · have HQ : Hid (ls.getD k ln0 = ls'.getD k ln0) := hq
        have SC : Hid (∀ W, Below w.heap.size w W → Calls Try.prog 28 #[.agg C.toArray, .agg C'.toArray] W fun e w' => e = .returned (.bool true) ∧ Below W.heap.size W w') := fun W hb => (SC0.out W hb).mono fun e w' ⟨⟨b, h1, h2⟩, h3⟩ => ⟨by rw [h1, h2.2 HQ.out], h3⟩
        clear SC0 hq
        go_upto_region 6 with fail
        refine wp_region_held_drew (S := fun w' => Blk X 32 [.int .i64 td, .slice (some ⟨g, o, none⟩) L lc, .slice na M nc] w' ∧ Blk (X + 1) 32 [.int .i64 td, .slice (some ⟨g', o', none⟩) L lc', .slice na' M nc'] w' ∧ Below w.heap.size w w') (by kernel_rfl) ⟨BX.out.drewN 1, BY.out.drewN 1, below_drewN BW.out 1⟩ (fun hH => ?_)
        refine wpAnyH_take (i := 0) (oi := { dst := some 37, op := Op.fieldAddr 32 (Operand.tmp 2) 1, type := 0, pos := "law.go:168", after := #[], guard := none }) (v := .pointer (some ⟨X, 1, none⟩)) rfl (by kernel_rfl) (by kernel_rfl) (by kernel_rfl) (fun _ _ _ h => h) (Or.inl ⟨by rfl, fun w' h => by go_simp⟩) hH ?_
        try simp only [Act.put, List.setIfInBounds_toArray, List.set_cons_zero, List.set_cons_succ]
        refine wpAnyH_take (i := 1) (oi := { dst := some 38, op := Op.load 29 (Operand.tmp 37), type := 29, pos := "law.go:168", after := #[{ on := 0, ground := Ground.data }], guard := none }) (v := .slice (some ⟨g, o, none⟩) L lc) rfl (by kernel_rfl) (by kernel_rfl) (by kernel_rfl) (fun _ _ _ h => h) (Or.inl ⟨by rfl, fun w' h => by have q := Blk.cell h.1 1 _ rfl; go_simp⟩) hH ?_
        try simp only [Act.put, List.setIfInBounds_toArray, List.set_cons_zero, List.set_cons_succ]
        refine wpAnyH_take (i := 2) (oi := { dst := some 39, op := Op.move (Operand.tmp 5), type := 3, pos := "law.go:168", after := #[], guard := none }) (v := .int .i64 (k : Int)) rfl (by kernel_rfl) (by kernel_rfl) (by kernel_rfl) (fun _ _ _ h => h) (Or.inl ⟨by rfl, fun w' h => by go_simp⟩) hH ?_
        try simp only [Act.put, List.setIfInBounds_toArray, List.set_cons_zero, List.set_cons_succ]
        refine wpAnyH_take (i := 3) (oi := { dst := some 40, op := Op.indexAddr 29 (Operand.tmp 38) (Operand.tmp 39), type := 0, pos := "law.go:168", after := #[{ on := 1, ground := Ground.data }, { on := 2, ground := Ground.data }], guard := none }) (v := .pointer (some ⟨g, o + k * 46, none⟩)) rfl (by kernel_rfl) (by kernel_rfl) (by kernel_rfl) (fun _ _ _ h => h) (Or.inl ⟨by rfl, fun w' h => by go_simp⟩) hH ?_
        try simp only [Act.put, List.setIfInBounds_toArray, List.set_cons_zero, List.set_cons_succ]
        refine wpAnyH_take (i := 4) (oi := { dst := some 41, op := Op.load 65 (Operand.tmp 40), type := 65, pos := "law.go:168", after := #[{ on := 3, ground := Ground.data }], guard := none }) (v := .agg (C).toArray) rfl (by kernel_rfl) (by kernel_rfl) (by kernel_rfl) (fun _ _ _ h => h) (yieldsIf_load_mid (by rfl) _ _ rfl g (o + k * 46) rfl (C) _ (fun w' h => LR.out w' h.2.2) hu rfl (szLn HC.out.1)) hH ?_
        try simp only [Act.put, List.setIfInBounds_toArray, List.set_cons_zero, List.set_cons_succ]
        refine wpAnyH_take (i := 5) (oi := { dst := some 42, op := Op.fieldAddr 32 (Operand.tmp 3) 1, type := 0, pos := "law.go:168", after := #[], guard := none }) (v := .pointer (some ⟨X + 1, 1, none⟩)) rfl (by kernel_rfl) (by kernel_rfl) (by kernel_rfl) (fun _ _ _ h => h) (Or.inl ⟨by rfl, fun w' h => by go_simp⟩) hH ?_
        try simp only [Act.put, List.setIfInBounds_toArray, List.set_cons_zero, List.set_cons_succ]
        refine wpAnyH_take (i := 6) (oi := { dst := some 43, op := Op.load 29 (Operand.tmp 42), type := 29, pos := "law.go:168", after := #[{ on := 5, ground := Ground.data }], guard := none }) (v := .slice (some ⟨g', o', none⟩) L lc') rfl (by kernel_rfl) (by kernel_rfl) (by kernel_rfl) (fun _ _ _ h => h) (Or.inl ⟨by rfl, fun w' h => by have q := Blk.cell h.2.1 1 _ rfl; go_simp⟩) hH ?_
        try simp only [Act.put, List.setIfInBounds_toArray, List.set_cons_zero, List.set_cons_succ]
        refine wpAnyH_take (i := 7) (oi := { dst := some 44, op := Op.move (Operand.tmp 5), type := 3, pos := "law.go:168", after := #[], guard := none }) (v := .int .i64 (k : Int)) rfl (by kernel_rfl) (by kernel_rfl) (by kernel_rfl) (fun _ _ _ h => h) (Or.inl ⟨by rfl, fun w' h => by go_simp⟩) hH ?_
        try simp only [Act.put, List.setIfInBounds_toArray, List.set_cons_zero, List.set_cons_succ]
        refine wpAnyH_take (i := 8) (oi := { dst := some 45, op := Op.indexAddr 29 (Operand.tmp 43) (Operand.tmp 44), type := 0, pos := "law.go:168", after := #[{ on := 6, ground := Ground.data }, { on := 7, ground := Ground.data }], guard := none }) (v := .pointer (some ⟨g', o' + k * 46, none⟩)) rfl (by kernel_rfl) (by kernel_rfl) (by kernel_rfl) (fun _ _ _ h => h) (Or.inl ⟨by rfl, fun w' h => by go_simp⟩) hH ?_
        try simp only [Act.put, List.setIfInBounds_toArray, List.set_cons_zero, List.set_cons_succ]
        refine wpAnyH_take (i := 9) (oi := { dst := some 46, op := Op.load 65 (Operand.tmp 45), type := 65, pos := "law.go:168", after := #[{ on := 8, ground := Ground.data }], guard := none }) (v := .agg (C').toArray) rfl (by kernel_rfl) (by kernel_rfl) (by kernel_rfl) (fun _ _ _ h => h) (yieldsIf_load_mid (by rfl) _ _ rfl g' (o' + k * 46) rfl (C') _ (fun w' h => LR'.out w' h.2.2) hu rfl (szLn HC'.out.1)) hH ?_
        try simp only [Act.put, List.setIfInBounds_toArray, List.set_cons_zero, List.set_cons_succ]
        refine wpAnyH_ready (rs := [10]) (by kernel_rfl) (by simp) ?_
        refine AllReadyH.cons (o := { dst := some 47, op := Op.call { callee := Callee.value (Operand.func 28), args := #[Operand.tmp 41, Operand.tmp 46], argTypes := #[65, 65] }, type := 4, pos := "law.go:168", after := #[{ on := 4, ground := Ground.data }, { on := 9, ground := Ground.data }], guard := none }) rfl (fun K hK => ?_) AllReadyH.nil
        go_simp
        refine (SC.out _ hH.2.2).mono ?_
        rintro e w3 ⟨rfl, bX⟩
        have BX3 : Hid (Blk X 32 [.int .i64 td, .slice (some ⟨g, o, none⟩) L lc, .slice na M nc] w3) := hH.1.below bX
        have BY3 : Hid (Blk (X + 1) 32 [.int .i64 td, .slice (some ⟨g', o', none⟩) L lc', .slice na' M nc'] w3) := hH.2.1.below bX
        have BW3 : Hid (Below w.heap.size w w3) := below_trans hH.2.2 bX
        refine hK.out _ _ ⟨BX3.out, BY3.out, BW3.out⟩ (fun hH => ?_)
        try simp only [List.setIfInBounds_toArray, List.set_cons_zero, List.set_cons_succ]
        refine wpAnyH_take (i := 11) (oi := { dst := some 48, op := Op.unOp UnOp.not 4 (Operand.tmp 47), type := 4, pos := "law.go:168", after := #[{ on := 10, ground := Ground.data }], guard := none }) (v := .bool false) rfl (by kernel_rfl) (by kernel_rfl) (by kernel_rfl) (fun _ _ _ h => h) (Or.inl ⟨by rfl, fun w' h => by go_simp⟩) hH ?_
        try simp only [Act.put, List.setIfInBounds_toArray, List.set_cons_zero, List.set_cons_succ]
        refine wpAnyH_done (by kernel_rfl) ?_ _
        clear hH hK bX
        go_wp2_with fail
        go_roundw
        case rel => exact ⟨k + 1, by go_num, by omega, (fun j hj => by
            by_cases e : j = k
            · subst e; exact HQ.out
            · exact EQ.out j (by omega)), BX3.out, BY3.out, BW3.out⟩
        case measure => simp [intOf]; omega
      · have HQ : Hid (¬ ls.getD k ln0 = ls'.getD k ln0) := hq
        have SC : Hid (∀ W, Below w.heap.size w W → Calls Try.prog 28 #[.agg C.toArray, .agg C'.toArray] W fun e w' => e = .returned (.bool false) ∧ Below W.heap.size W w') := fun W hb => (SC0.out W hb).mono fun e w' ⟨⟨b, h1, h2⟩, h3⟩ => ⟨by rw [h1]; cases b; rfl; exact absurd (h2.1 rfl) HQ.out, h3⟩
        clear SC0 hq
        go_upto_region 6 with fail
        refine wp_region_held_drew (S := fun w' => Blk X 32 [.int .i64 td, .slice (some ⟨g, o, none⟩) L lc, .slice na M nc] w' ∧ Blk (X + 1) 32 [.int .i64 td, .slice (some ⟨g', o', none⟩) L lc', .slice na' M nc'] w' ∧ Below w.heap.size w w') (by kernel_rfl) ⟨BX.out.drewN 1, BY.out.drewN 1, below_drewN BW.out 1⟩ (fun hH => ?_)
        refine wpAnyH_take (i := 0) (oi := { dst := some 37, op := Op.fieldAddr 32 (Operand.tmp 2) 1, type := 0, pos := "law.go:168", after := #[], guard := none }) (v := .pointer (some ⟨X, 1, none⟩)) rfl (by kernel_rfl) (by kernel_rfl) (by kernel_rfl) (fun _ _ _ h => h) (Or.inl ⟨by rfl, fun w' h => by go_simp⟩) hH ?_
        try simp only [Act.put, List.setIfInBounds_toArray, List.set_cons_zero, List.set_cons_succ]
        refine wpAnyH_take (i := 1) (oi := { dst := some 38, op := Op.load 29 (Operand.tmp 37), type := 29, pos := "law.go:168", after := #[{ on := 0, ground := Ground.data }], guard := none }) (v := .slice (some ⟨g, o, none⟩) L lc) rfl (by kernel_rfl) (by kernel_rfl) (by kernel_rfl) (fun _ _ _ h => h) (Or.inl ⟨by rfl, fun w' h => by have q := Blk.cell h.1 1 _ rfl; go_simp⟩) hH ?_
        try simp only [Act.put, List.setIfInBounds_toArray, List.set_cons_zero, List.set_cons_succ]
        refine wpAnyH_take (i := 2) (oi := { dst := some 39, op := Op.move (Operand.tmp 5), type := 3, pos := "law.go:168", after := #[], guard := none }) (v := .int .i64 (k : Int)) rfl (by kernel_rfl) (by kernel_rfl) (by kernel_rfl) (fun _ _ _ h => h) (Or.inl ⟨by rfl, fun w' h => by go_simp⟩) hH ?_
        try simp only [Act.put, List.setIfInBounds_toArray, List.set_cons_zero, List.set_cons_succ]
        refine wpAnyH_take (i := 3) (oi := { dst := some 40, op := Op.indexAddr 29 (Operand.tmp 38) (Operand.tmp 39), type := 0, pos := "law.go:168", after := #[{ on := 1, ground := Ground.data }, { on := 2, ground := Ground.data }], guard := none }) (v := .pointer (some ⟨g, o + k * 46, none⟩)) rfl (by kernel_rfl) (by kernel_rfl) (by kernel_rfl) (fun _ _ _ h => h) (Or.inl ⟨by rfl, fun w' h => by go_simp⟩) hH ?_
        try simp only [Act.put, List.setIfInBounds_toArray, List.set_cons_zero, List.set_cons_succ]
        refine wpAnyH_take (i := 4) (oi := { dst := some 41, op := Op.load 65 (Operand.tmp 40), type := 65, pos := "law.go:168", after := #[{ on := 3, ground := Ground.data }], guard := none }) (v := .agg (C).toArray) rfl (by kernel_rfl) (by kernel_rfl) (by kernel_rfl) (fun _ _ _ h => h) (yieldsIf_load_mid (by rfl) _ _ rfl g (o + k * 46) rfl (C) _ (fun w' h => LR.out w' h.2.2) hu rfl (szLn HC.out.1)) hH ?_
        try simp only [Act.put, List.setIfInBounds_toArray, List.set_cons_zero, List.set_cons_succ]
        refine wpAnyH_take (i := 5) (oi := { dst := some 42, op := Op.fieldAddr 32 (Operand.tmp 3) 1, type := 0, pos := "law.go:168", after := #[], guard := none }) (v := .pointer (some ⟨X + 1, 1, none⟩)) rfl (by kernel_rfl) (by kernel_rfl) (by kernel_rfl) (fun _ _ _ h => h) (Or.inl ⟨by rfl, fun w' h => by go_simp⟩) hH ?_
        try simp only [Act.put, List.setIfInBounds_toArray, List.set_cons_zero, List.set_cons_succ]
        refine wpAnyH_take (i := 6) (oi := { dst := some 43, op := Op.load 29 (Operand.tmp 42), type := 29, pos := "law.go:168", after := #[{ on := 5, ground := Ground.data }], guard := none }) (v := .slice (some ⟨g', o', none⟩) L lc') rfl (by kernel_rfl) (by kernel_rfl) (by kernel_rfl) (fun _ _ _ h => h) (Or.inl ⟨by rfl, fun w' h => by have q := Blk.cell h.2.1 1 _ rfl; go_simp⟩) hH ?_
        try simp only [Act.put, List.setIfInBounds_toArray, List.set_cons_zero, List.set_cons_succ]
        refine wpAnyH_take (i := 7) (oi := { dst := some 44, op := Op.move (Operand.tmp 5), type := 3, pos := "law.go:168", after := #[], guard := none }) (v := .int .i64 (k : Int)) rfl (by kernel_rfl) (by kernel_rfl) (by kernel_rfl) (fun _ _ _ h => h) (Or.inl ⟨by rfl, fun w' h => by go_simp⟩) hH ?_
        try simp only [Act.put, List.setIfInBounds_toArray, List.set_cons_zero, List.set_cons_succ]
        refine wpAnyH_take (i := 8) (oi := { dst := some 45, op := Op.indexAddr 29 (Operand.tmp 43) (Operand.tmp 44), type := 0, pos := "law.go:168", after := #[{ on := 6, ground := Ground.data }, { on := 7, ground := Ground.data }], guard := none }) (v := .pointer (some ⟨g', o' + k * 46, none⟩)) rfl (by kernel_rfl) (by kernel_rfl) (by kernel_rfl) (fun _ _ _ h => h) (Or.inl ⟨by rfl, fun w' h => by go_simp⟩) hH ?_
        try simp only [Act.put, List.setIfInBounds_toArray, List.set_cons_zero, List.set_cons_succ]
        refine wpAnyH_take (i := 9) (oi := { dst := some 46, op := Op.load 65 (Operand.tmp 45), type := 65, pos := "law.go:168", after := #[{ on := 8, ground := Ground.data }], guard := none }) (v := .agg (C').toArray) rfl (by kernel_rfl) (by kernel_rfl) (by kernel_rfl) (fun _ _ _ h => h) (yieldsIf_load_mid (by rfl) _ _ rfl g' (o' + k * 46) rfl (C') _ (fun w' h => LR'.out w' h.2.2) hu rfl (szLn HC'.out.1)) hH ?_
        try simp only [Act.put, List.setIfInBounds_toArray, List.set_cons_zero, List.set_cons_succ]
        refine wpAnyH_ready (rs := [10]) (by kernel_rfl) (by simp) ?_
        refine AllReadyH.cons (o := { dst := some 47, op := Op.call { callee := Callee.value (Operand.func 28), args := #[Operand.tmp 41, Operand.tmp 46], argTypes := #[65, 65] }, type := 4, pos := "law.go:168", after := #[{ on := 4, ground := Ground.data }, { on := 9, ground := Ground.data }], guard := none }) rfl (fun K hK => ?_) AllReadyH.nil
        go_simp
        refine (SC.out _ hH.2.2).mono ?_
        rintro e w3 ⟨rfl, bX⟩
        have BX3 : Hid (Blk X 32 [.int .i64 td, .slice (some ⟨g, o, none⟩) L lc, .slice na M nc] w3) := hH.1.below bX
        have BY3 : Hid (Blk (X + 1) 32 [.int .i64 td, .slice (some ⟨g', o', none⟩) L lc', .slice na' M nc'] w3) := hH.2.1.below bX
        have BW3 : Hid (Below w.heap.size w w3) := below_trans hH.2.2 bX
        refine hK.out _ _ ⟨BX3.out, BY3.out, BW3.out⟩ (fun hH => ?_)
        try simp only [List.setIfInBounds_toArray, List.set_cons_zero, List.set_cons_succ]
        refine wpAnyH_take (i := 11) (oi := { dst := some 48, op := Op.unOp UnOp.not 4 (Operand.tmp 47), type := 4, pos := "law.go:168", after := #[{ on := 10, ground := Ground.data }], guard := none }) (v := .bool true) rfl (by kernel_rfl) (by kernel_rfl) (by kernel_rfl) (fun _ _ _ h => h) (Or.inl ⟨by rfl, fun w' h => by go_simp⟩) hH ?_
        try simp only [Act.put, List.setIfInBounds_toArray, List.set_cons_zero, List.set_cons_succ]
        refine wpAnyH_done (by kernel_rfl) ?_ _
        clear hH hK bX
        go_wp2_with fail
        go_ret
        exact ⟨AnsB.no fun e => HQ.out (by rw [(HP.out.1 e).2.1]), BW3.out⟩
    · obtain rfl : k = L := by omega
      have EQL : Hid (ls = ls') := ext_D HLL.out.1 HLL.out.2.1 EQ.out
      clear LE LE' SL EQ
      have c2 := BX.out.cell 2 _ rfl
      have d2 := BY.out.cell 2 _ rfl
      obtain ⟨L, hLk⟩ : ∃ L, L = k := ⟨_, rfl⟩
      subst hLk
      go_wp2_with fail
      go_loopw [6] (fun vk wr => ∃ (k : Nat), vk = .int .i64 (k : Int) ∧ k ≤ M ∧ Hid (∀ j, j < k → ns.getD j nt0 = ns'.getD j nt0) ∧ Hid (Blk X 32 [.int .i64 td, .slice la L lc, .slice na M nc] wr) ∧ Hid (Blk (X + 1) 32 [.int .i64 td, .slice la' L lc', .slice na' M nc'] wr) ∧ Hid (Below w.heap.size w wr)) (fun vk _ => M - (intOf vk).toNat)
      case atStart => exact ⟨0, rfl, by omega, (fun j hj => by omega), BX.out, BY.out, BW.out⟩
      case round =>
        clear BX BY BW c1 c2 d1 d2
        obtain ⟨k, rfl, hk, EQ, BX, BY, BW⟩ := hrel
        have c2 := BX.out.cell 2 _ rfl
        have d2 := BY.out.cell 2 _ rfl
        by_cases hlt : (k : Int) < (M : Int)
        · obtain ⟨g, o, rfl, rg⟩ := NE.out k (by omega)
          obtain ⟨g', o', rfl, rg'⟩ := NE'.out k (by omega)
          obtain ⟨r, er, ir⟩ := NQ.out k (by omega) (by omega)
          have LR : Hid (∀ w', Below w.heap.size w w' → w'.rangeAt g (o + k * 6) (ntL (ns.getD k nt0))) := fun w' hb => range_up rg (by show 0 < 6; decide) hb
          have LR' : Hid (∀ w', Below w.heap.size w w' → w'.rangeAt g' (o' + k * 6) (ntL (ns'.getD k nt0))) := fun w' hb => range_up rg' (by show 0 < 6; decide) hb
          have HC : Hid ((ntL (ns.getD k nt0)).length = 6 ∧ ∀ u ∈ ntL (ns.getD k nt0), u.oneCell' = true) := ntL_one _
          have HC' : Hid ((ntL (ns'.getD k nt0)).length = 6 ∧ ∀ u ∈ ntL (ns'.getD k nt0), u.oneCell' = true) := ntL_one _
          have EE : Hid (EqR 28 (ntL (ns.getD k nt0)) (ntL (ns'.getD k nt0)) r) := er
          have IR : Hid (r = true ↔ ns.getD k nt0 = ns'.getD k nt0) := ir
          obtain ⟨C, hC⟩ : ∃ C, C = ntL (ns.getD k nt0) := ⟨_, rfl⟩
          obtain ⟨C', hC'⟩ : ∃ C, C = ntL (ns'.getD k nt0) := ⟨_, rfl⟩
          rw [← hC] at LR HC EE
          rw [← hC'] at LR' HC' EE
          clear hC hC' rg rg' er ir NE NE' NQ
          cases r with
          | true =>
            go_upto_region 11 with fail
            refine wp_region_held_drew (S := fun w' => Blk X 32 [.int .i64 td, .slice la L lc, .slice (some ⟨g, o, none⟩) M nc] w' ∧ Blk (X + 1) 32 [.int .i64 td, .slice la' L lc', .slice (some ⟨g', o', none⟩) M nc'] w' ∧ Below w.heap.size w w') (by kernel_rfl) ⟨BX.out.drewN 1, BY.out.drewN 1, below_drewN BW.out 1⟩ (fun hH => ?_)
            refine wpAnyH_take (i := 0) (oi := { dst := some 56, op := Op.fieldAddr 32 (Operand.tmp 2) 2, type := 0, pos := "law.go:173", after := #[], guard := none }) (v := .pointer (some ⟨X, 2, none⟩)) rfl (by kernel_rfl) (by kernel_rfl) (by kernel_rfl) (fun _ _ _ h => h) (Or.inl ⟨by rfl, fun w' h => by go_simp⟩) hH ?_
            try simp only [Act.put, List.setIfInBounds_toArray, List.set_cons_zero, List.set_cons_succ]
            refine wpAnyH_take (i := 1) (oi := { dst := some 57, op := Op.load 30 (Operand.tmp 56), type := 30, pos := "law.go:173", after := #[{ on := 0, ground := Ground.data }], guard := none }) (v := .slice (some ⟨g, o, none⟩) M nc) rfl (by kernel_rfl) (by kernel_rfl) (by kernel_rfl) (fun _ _ _ h => h) (Or.inl ⟨by rfl, fun w' h => by have q := Blk.cell h.1 2 _ rfl; go_simp⟩) hH ?_
            try simp only [Act.put, List.setIfInBounds_toArray, List.set_cons_zero, List.set_cons_succ]
            refine wpAnyH_take (i := 2) (oi := { dst := some 58, op := Op.move (Operand.tmp 6), type := 3, pos := "law.go:173", after := #[], guard := none }) (v := .int .i64 (k : Int)) rfl (by kernel_rfl) (by kernel_rfl) (by kernel_rfl) (fun _ _ _ h => h) (Or.inl ⟨by rfl, fun w' h => by go_simp⟩) hH ?_
            try simp only [Act.put, List.setIfInBounds_toArray, List.set_cons_zero, List.set_cons_succ]
            refine wpAnyH_take (i := 3) (oi := { dst := some 59, op := Op.indexAddr 30 (Operand.tmp 57) (Operand.tmp 58), type := 0, pos := "law.go:173", after := #[{ on := 1, ground := Ground.data }, { on := 2, ground := Ground.data }], guard := none }) (v := .pointer (some ⟨g, o + k * 6, none⟩)) rfl (by kernel_rfl) (by kernel_rfl) (by kernel_rfl) (fun _ _ _ h => h) (Or.inl ⟨by rfl, fun w' h => by go_simp⟩) hH ?_
            try simp only [Act.put, List.setIfInBounds_toArray, List.set_cons_zero, List.set_cons_succ]
            refine wpAnyH_take (i := 4) (oi := { dst := some 60, op := Op.load 28 (Operand.tmp 59), type := 28, pos := "law.go:173", after := #[{ on := 3, ground := Ground.data }], guard := none }) (v := .agg (C).toArray) rfl (by kernel_rfl) (by kernel_rfl) (by kernel_rfl) (fun _ _ _ h => h) (yieldsIf_load_mid (by rfl) _ _ rfl g (o + k * 6) rfl (C) _ (fun w' h => LR.out w' h.2.2) huN rfl (szNt HC.out.1)) hH ?_
            try simp only [Act.put, List.setIfInBounds_toArray, List.set_cons_zero, List.set_cons_succ]
            refine wpAnyH_take (i := 5) (oi := { dst := some 61, op := Op.fieldAddr 32 (Operand.tmp 3) 2, type := 0, pos := "law.go:173", after := #[], guard := none }) (v := .pointer (some ⟨X + 1, 2, none⟩)) rfl (by kernel_rfl) (by kernel_rfl) (by kernel_rfl) (fun _ _ _ h => h) (Or.inl ⟨by rfl, fun w' h => by go_simp⟩) hH ?_
            try simp only [Act.put, List.setIfInBounds_toArray, List.set_cons_zero, List.set_cons_succ]
            refine wpAnyH_take (i := 6) (oi := { dst := some 62, op := Op.load 30 (Operand.tmp 61), type := 30, pos := "law.go:173", after := #[{ on := 5, ground := Ground.data }], guard := none }) (v := .slice (some ⟨g', o', none⟩) M nc') rfl (by kernel_rfl) (by kernel_rfl) (by kernel_rfl) (fun _ _ _ h => h) (Or.inl ⟨by rfl, fun w' h => by have q := Blk.cell h.2.1 2 _ rfl; go_simp⟩) hH ?_
            try simp only [Act.put, List.setIfInBounds_toArray, List.set_cons_zero, List.set_cons_succ]
            refine wpAnyH_take (i := 7) (oi := { dst := some 63, op := Op.move (Operand.tmp 6), type := 3, pos := "law.go:173", after := #[], guard := none }) (v := .int .i64 (k : Int)) rfl (by kernel_rfl) (by kernel_rfl) (by kernel_rfl) (fun _ _ _ h => h) (Or.inl ⟨by rfl, fun w' h => by go_simp⟩) hH ?_
            try simp only [Act.put, List.setIfInBounds_toArray, List.set_cons_zero, List.set_cons_succ]
            refine wpAnyH_take (i := 8) (oi := { dst := some 64, op := Op.indexAddr 30 (Operand.tmp 62) (Operand.tmp 63), type := 0, pos := "law.go:173", after := #[{ on := 6, ground := Ground.data }, { on := 7, ground := Ground.data }], guard := none }) (v := .pointer (some ⟨g', o' + k * 6, none⟩)) rfl (by kernel_rfl) (by kernel_rfl) (by kernel_rfl) (fun _ _ _ h => h) (Or.inl ⟨by rfl, fun w' h => by go_simp⟩) hH ?_
            try simp only [Act.put, List.setIfInBounds_toArray, List.set_cons_zero, List.set_cons_succ]
            refine wpAnyH_take (i := 9) (oi := { dst := some 65, op := Op.load 28 (Operand.tmp 64), type := 28, pos := "law.go:173", after := #[{ on := 8, ground := Ground.data }], guard := none }) (v := .agg (C').toArray) rfl (by kernel_rfl) (by kernel_rfl) (by kernel_rfl) (fun _ _ _ h => h) (yieldsIf_load_mid (by rfl) _ _ rfl g' (o' + k * 6) rfl (C') _ (fun w' h => LR'.out w' h.2.2) huN rfl (szNt HC'.out.1)) hH ?_
            try simp only [Act.put, List.setIfInBounds_toArray, List.set_cons_zero, List.set_cons_succ]
            refine wpAnyH_take (i := 10) (oi := { dst := some 66, op := Op.binOp BinOp.neq 28 (Operand.tmp 60) (Operand.tmp 65) 28, type := 4, pos := "law.go:173", after := #[{ on := 4, ground := Ground.data }, { on := 9, ground := Ground.data }], guard := none }) (v := .bool false) rfl (by kernel_rfl) (by kernel_rfl) (by kernel_rfl) (fun _ _ _ h => h) (yieldsIf_neq (by rfl) 28 28 _ _ rfl C C' rfl rfl hgd EE.out rfl) hH ?_
            try simp only [Act.put, List.setIfInBounds_toArray, List.set_cons_zero, List.set_cons_succ]
            refine wpAnyH_done (by kernel_rfl) ?_ _
            clear hH
            go_wp2_with fail
            go_roundw
            case rel => exact ⟨k + 1, by go_num, by omega, (fun j hj => by
                by_cases e : j = k
                · subst e; exact IR.out.1 rfl
                · exact EQ.out j (by omega)), BX.out.drewN 1, BY.out.drewN 1, below_drewN BW.out 1⟩
            case measure => simp [intOf]; omega
          | false =>
            go_upto_region 11 with fail
            refine wp_region_held_drew (S := fun w' => Blk X 32 [.int .i64 td, .slice la L lc, .slice (some ⟨g, o, none⟩) M nc] w' ∧ Blk (X + 1) 32 [.int .i64 td, .slice la' L lc', .slice (some ⟨g', o', none⟩) M nc'] w' ∧ Below w.heap.size w w') (by kernel_rfl) ⟨BX.out.drewN 1, BY.out.drewN 1, below_drewN BW.out 1⟩ (fun hH => ?_)
            refine wpAnyH_take (i := 0) (oi := { dst := some 56, op := Op.fieldAddr 32 (Operand.tmp 2) 2, type := 0, pos := "law.go:173", after := #[], guard := none }) (v := .pointer (some ⟨X, 2, none⟩)) rfl (by kernel_rfl) (by kernel_rfl) (by kernel_rfl) (fun _ _ _ h => h) (Or.inl ⟨by rfl, fun w' h => by go_simp⟩) hH ?_
            try simp only [Act.put, List.setIfInBounds_toArray, List.set_cons_zero, List.set_cons_succ]
            refine wpAnyH_take (i := 1) (oi := { dst := some 57, op := Op.load 30 (Operand.tmp 56), type := 30, pos := "law.go:173", after := #[{ on := 0, ground := Ground.data }], guard := none }) (v := .slice (some ⟨g, o, none⟩) M nc) rfl (by kernel_rfl) (by kernel_rfl) (by kernel_rfl) (fun _ _ _ h => h) (Or.inl ⟨by rfl, fun w' h => by have q := Blk.cell h.1 2 _ rfl; go_simp⟩) hH ?_
            try simp only [Act.put, List.setIfInBounds_toArray, List.set_cons_zero, List.set_cons_succ]
            refine wpAnyH_take (i := 2) (oi := { dst := some 58, op := Op.move (Operand.tmp 6), type := 3, pos := "law.go:173", after := #[], guard := none }) (v := .int .i64 (k : Int)) rfl (by kernel_rfl) (by kernel_rfl) (by kernel_rfl) (fun _ _ _ h => h) (Or.inl ⟨by rfl, fun w' h => by go_simp⟩) hH ?_
            try simp only [Act.put, List.setIfInBounds_toArray, List.set_cons_zero, List.set_cons_succ]
            refine wpAnyH_take (i := 3) (oi := { dst := some 59, op := Op.indexAddr 30 (Operand.tmp 57) (Operand.tmp 58), type := 0, pos := "law.go:173", after := #[{ on := 1, ground := Ground.data }, { on := 2, ground := Ground.data }], guard := none }) (v := .pointer (some ⟨g, o + k * 6, none⟩)) rfl (by kernel_rfl) (by kernel_rfl) (by kernel_rfl) (fun _ _ _ h => h) (Or.inl ⟨by rfl, fun w' h => by go_simp⟩) hH ?_
            try simp only [Act.put, List.setIfInBounds_toArray, List.set_cons_zero, List.set_cons_succ]
            refine wpAnyH_take (i := 4) (oi := { dst := some 60, op := Op.load 28 (Operand.tmp 59), type := 28, pos := "law.go:173", after := #[{ on := 3, ground := Ground.data }], guard := none }) (v := .agg (C).toArray) rfl (by kernel_rfl) (by kernel_rfl) (by kernel_rfl) (fun _ _ _ h => h) (yieldsIf_load_mid (by rfl) _ _ rfl g (o + k * 6) rfl (C) _ (fun w' h => LR.out w' h.2.2) huN rfl (szNt HC.out.1)) hH ?_
            try simp only [Act.put, List.setIfInBounds_toArray, List.set_cons_zero, List.set_cons_succ]
            refine wpAnyH_take (i := 5) (oi := { dst := some 61, op := Op.fieldAddr 32 (Operand.tmp 3) 2, type := 0, pos := "law.go:173", after := #[], guard := none }) (v := .pointer (some ⟨X + 1, 2, none⟩)) rfl (by kernel_rfl) (by kernel_rfl) (by kernel_rfl) (fun _ _ _ h => h) (Or.inl ⟨by rfl, fun w' h => by go_simp⟩) hH ?_
            try simp only [Act.put, List.setIfInBounds_toArray, List.set_cons_zero, List.set_cons_succ]
            refine wpAnyH_take (i := 6) (oi := { dst := some 62, op := Op.load 30 (Operand.tmp 61), type := 30, pos := "law.go:173", after := #[{ on := 5, ground := Ground.data }], guard := none }) (v := .slice (some ⟨g', o', none⟩) M nc') rfl (by kernel_rfl) (by kernel_rfl) (by kernel_rfl) (fun _ _ _ h => h) (Or.inl ⟨by rfl, fun w' h => by have q := Blk.cell h.2.1 2 _ rfl; go_simp⟩) hH ?_
            try simp only [Act.put, List.setIfInBounds_toArray, List.set_cons_zero, List.set_cons_succ]
            refine wpAnyH_take (i := 7) (oi := { dst := some 63, op := Op.move (Operand.tmp 6), type := 3, pos := "law.go:173", after := #[], guard := none }) (v := .int .i64 (k : Int)) rfl (by kernel_rfl) (by kernel_rfl) (by kernel_rfl) (fun _ _ _ h => h) (Or.inl ⟨by rfl, fun w' h => by go_simp⟩) hH ?_
            try simp only [Act.put, List.setIfInBounds_toArray, List.set_cons_zero, List.set_cons_succ]
            refine wpAnyH_take (i := 8) (oi := { dst := some 64, op := Op.indexAddr 30 (Operand.tmp 62) (Operand.tmp 63), type := 0, pos := "law.go:173", after := #[{ on := 6, ground := Ground.data }, { on := 7, ground := Ground.data }], guard := none }) (v := .pointer (some ⟨g', o' + k * 6, none⟩)) rfl (by kernel_rfl) (by kernel_rfl) (by kernel_rfl) (fun _ _ _ h => h) (Or.inl ⟨by rfl, fun w' h => by go_simp⟩) hH ?_
            try simp only [Act.put, List.setIfInBounds_toArray, List.set_cons_zero, List.set_cons_succ]
            refine wpAnyH_take (i := 9) (oi := { dst := some 65, op := Op.load 28 (Operand.tmp 64), type := 28, pos := "law.go:173", after := #[{ on := 8, ground := Ground.data }], guard := none }) (v := .agg (C').toArray) rfl (by kernel_rfl) (by kernel_rfl) (by kernel_rfl) (fun _ _ _ h => h) (yieldsIf_load_mid (by rfl) _ _ rfl g' (o' + k * 6) rfl (C') _ (fun w' h => LR'.out w' h.2.2) huN rfl (szNt HC'.out.1)) hH ?_
            try simp only [Act.put, List.setIfInBounds_toArray, List.set_cons_zero, List.set_cons_succ]
            refine wpAnyH_take (i := 10) (oi := { dst := some 66, op := Op.binOp BinOp.neq 28 (Operand.tmp 60) (Operand.tmp 65) 28, type := 4, pos := "law.go:173", after := #[{ on := 4, ground := Ground.data }, { on := 9, ground := Ground.data }], guard := none }) (v := .bool true) rfl (by kernel_rfl) (by kernel_rfl) (by kernel_rfl) (fun _ _ _ h => h) (yieldsIf_neq (by rfl) 28 28 _ _ rfl C C' rfl rfl hgd EE.out rfl) hH ?_
            try simp only [Act.put, List.setIfInBounds_toArray, List.set_cons_zero, List.set_cons_succ]
            refine wpAnyH_done (by kernel_rfl) ?_ _
            clear hH
            go_wp2_with fail
            go_ret
            refine ⟨AnsB.no fun e => ?_, below_drewN BW.out 1⟩
            have := IR.out.2 (by rw [(HP.out.1 e).2.2])
            cases this
        · obtain rfl : k = M := by omega
          have EQN : Hid (ns = ns') := ext_D HLL.out.2.2.1 HLL.out.2.2.2 EQ.out
          go_wp2_with fail
          go_ret
          exact ⟨AnsB.yes (HP.out.2 ⟨by first | rfl | trivial, EQL.out, EQN.out⟩), BW.out⟩
end Go.Proofs.Ytdbjjeaflfoppaa

namespace Go.Proofs.Ytdbjjeaflfoppaa
open Go.RowKit WsM

namespace WsM
/-- What a record that has a telling uses. -/
def usR (k : Int) (o : OpV) (xs : List Int) : Int × OpV × List Int := if k = 1 then (1, usedV o, []) else (2, opZ, xs)
end WsM
theorem usedV_some {o : OpV} {m : Nat} (h : fmask o.kind = some m) : usedV o = usedM m o := by unfold usedV; rw [h]
theorem opM_used (m : Nat) (o : OpV) : opM m (usedM m o) = opM m o := by
  unfold opM usedM
  simp only [beq_iff_eq]
  have z : ∀ (n : Nat) (f : Int → List Nat) (x : Int), (if n = 1 then f (if n = 1 then x else 0) else []) = (if n = 1 then f x else []) := fun n f x => by by_cases c : n = 1 <;> simp [c]
  have z2 : ∀ (n : Nat) (f : ByteArray → List Nat) (x : ByteArray), (if n = 1 then f (if n = 1 then x else ⟨#[]⟩) else []) = (if n = 1 then f x else []) := fun n f x => by by_cases c : n = 1 <;> simp [c]
  rw [z _ putI, z _ putI, z _ putI, z _ putI, z _ putI, z2 _ (fun s => putT (sB s))]
theorem opL_inj {o o' : OpV} {m m' : Nat} (ok : o.Ok) (ok' : o'.Ok) (h : fmask o.kind = some m) (h' : fmask o'.kind = some m') : opM m o = opM m' o' ↔ usedM m o = usedM m' o' := by
  constructor
  · intro e
    have hb := opM_bytes m o
    have h1 := opR_told hb (p := 0) (r := []) ok h (Nat.zero_le _) (by simp)
    have h2 := opR_told (bs := opM m o) hb (p := 0) (r := []) ok' h' (Nat.zero_le _) (by simp [e])
    rw [h1] at h2
    exact (Prod.mk.inj h2).1
  · intro e
    have ek0 : (usedM m o).kind = (usedM m' o').kind := congrArg OpV.kind e
    have ek : o.kind = o'.kind := ek0
    rw [ek, h'] at h
    injection h with h
    subst h
    rw [← opM_used m' o, ← opM_used m' o', e]
/-- Two records that have a telling are told alike just where what they use is equal. -/
theorem recL_inj {k k' : Int} {o o' : OpV} {xs ys : List Int} (ok : o.Ok) (ok' : o'.Ok) (hk : recOk k o = true) (hk' : recOk k' o' = true) : recL k o xs = recL k' o' ys ↔ usR k o xs = usR k' o' ys := by
  have split1 : ∀ {k : Int} {o : OpV}, recOk k o = true → (k = 1 ∧ ∃ m, fmask o.kind = some m) ∨ (¬ k = 1 ∧ k = 2) := fun {k o} h => by
    unfold recOk at h
    by_cases c : k = 1
    · rw [if_pos c] at h
      exact .inl ⟨c, Option.isSome_iff_exists.1 h⟩
    · rw [if_neg c] at h
      exact .inr ⟨c, by simpa using h⟩
  rcases split1 hk with ⟨rfl, m, hm⟩ | ⟨n1, rfl⟩
  · have e1 : recL 1 o xs = put 1 ++ opM m o := by unfold recL opL; rw [if_pos rfl, hm]; simp
    rcases split1 hk' with ⟨rfl, m', hm'⟩ | ⟨n1', rfl⟩
    · have e2 : recL 1 o' ys = put 1 ++ opM m' o' := by unfold recL opL; rw [if_pos rfl, hm']; simp
      rw [e1, e2, List.append_right_inj, opL_inj ok ok' hm hm']
      simp [usR, usedV_some hm, usedV_some hm']
    · have e2 : recL 2 o' ys = put 2 ++ putL ys := by unfold recL; rw [if_neg (by decide), if_pos rfl]
      rw [e1, e2, put_one, put_two]
      simp [usR]
  · have e1 : recL 2 o xs = put 2 ++ putL xs := by unfold recL; rw [if_neg (by decide), if_pos rfl]
    rcases split1 hk' with ⟨rfl, m', hm'⟩ | ⟨n1', rfl⟩
    · have e2 : recL 1 o' ys = put 1 ++ opM m' o' := by unfold recL opL; rw [if_pos rfl, hm']; simp
      rw [e1, e2, put_one, put_two]
      simp [usR]
    · have e2 : recL 2 o' ys = put 2 ++ putL ys := by unfold recL; rw [if_neg (by decide), if_pos rfl]
      rw [e1, e2, List.append_right_inj]
      constructor
      · intro h
        unfold putL at h
        obtain ⟨a, b⟩ := put_inj _ _ _ _ h
        obtain ⟨c, _⟩ := putFs_pin (r := []) (s := []) a (by simpa using b)
        rw [c]; simp [usR]
      · intro h
        have : xs = ys := by simpa [usR] using h
        rw [this]
/-- An operation's cells. -/
def opC (o : OpV) : List Value := [.int .i64 o.kind, .int .i64 o.loan, .int .i64 o.amount, .int .i64 o.rate, .int .i64 o.count, .int .i64 o.days, .string o.text]
set_option maxRecDepth 20000 in
theorem eqOp (x y : OpV) (hx : x.Ok) (hy : y.Ok) : ∃ r : Bool, EqR 23 (opC x) (opC y) r ∧ (r = true ↔ x = y) := by
  have c1 : Try.prog.cellsOf 23 = 7 := by kernel_rfl
  have c2 : Try.prog.cellsOf 3 = 1 := by kernel_rfl
  have c3 : Try.prog.cellsOf 2 = 1 := by kernel_rfl
  have c4 : Try.prog.cellsOf 9 = 1 := by kernel_rfl
  have sx : x.text.size ≤ maxLen := Nat.le_trans hx.text (by decide)
  have sy : y.text.size ≤ maxLen := Nat.le_trans hy.text (by decide)
  have kx : Try.prog.keyLits 2 23 (opC x) = some [.int .i64 x.kind, .int .i64 x.loan, .int .i64 x.amount, .int .i64 x.rate, .int .i64 x.count, .int .i64 x.days, .string x.text.data.toList] := by
    simp [Program.keyLits, Try.underlying3, Try.underlying2, Try.underlying9, c1, c2, c3, c4, Try.underlying23, opC, wf64 hx.kind, wf64 hx.loan, wf64 hx.amount, wf64 hx.rate, wf64 hx.count, wf64 hx.days, sx]
  have ky : Try.prog.keyLits 2 23 (opC y) = some [.int .i64 y.kind, .int .i64 y.loan, .int .i64 y.amount, .int .i64 y.rate, .int .i64 y.count, .int .i64 y.days, .string y.text.data.toList] := by
    simp [Program.keyLits, Try.underlying3, Try.underlying2, Try.underlying9, c1, c2, c3, c4, Try.underlying23, opC, wf64 hy.kind, wf64 hy.loan, wf64 hy.amount, wf64 hy.rate, wf64 hy.count, wf64 hy.days, sy]
  obtain ⟨r, h1, h2⟩ := eq_any (m := 2) (by kernel_rfl) (by decide) (by simp [Value.formed, Try.underlying23, c1, opC]) (by simp [Value.formed, Try.underlying23, c1, opC]) kx ky
  refine ⟨r, h1, h2.trans ⟨fun h => ?_, fun h => by rw [h]⟩⟩
  obtain ⟨a0, a1, a2, a3, a4, a5, ⟨⟨a6⟩⟩⟩ := x
  obtain ⟨b0, b1, b2, b3, b4, b5, ⟨⟨b6⟩⟩⟩ := y
  simp at h
  obtain ⟨rfl, rfl, rfl, rfl, rfl, rfl, rfl⟩ := h
  rfl
theorem sizO (o : OpV) : (Try.prog.info? 23).map (·.size) = some (opC o).length := by show _ = some 7; kernel_rfl
def recC (k : Int) (o : OpV) (va : Value) : List Value := .int .i64 k :: (opC o ++ [va])
theorem recC_V (k : Int) (o : OpV) (va : Value) : recV k o va = .agg (recC k o va).toArray := rfl
set_option maxRecDepth 20000 in
set_option maxHeartbeats 2000000 in
theorem sameRecordG_at (k k' : Int) (o o' : OpV) (ok : o.Ok) (ok' : o'.Ok) (xs ys : List Int) (va vb : Value) (w : World) (hl : xs.length ≤ 1000000000) (ha : RdI w va xs) (hb : RdI w vb ys) :
    Calls Try.prog 11 #[recV k o va, recV k' o' vb] w fun e w' => AnsB ((k, o, xs) = (k', o', ys)) e ∧ Below w.heap.size w w' := by
  obtain ⟨pa, pc, rfl, -, -⟩ := ha.len
  obtain ⟨qa, qc, rfl, -, -⟩ := hb.len
  obtain ⟨pn, hpn⟩ : ∃ n, (xs.map (Value.int .i64)).length = n := ⟨_, rfl⟩
  obtain ⟨qn, hqn⟩ : ∃ n, (ys.map (Value.int .i64)).length = n := ⟨_, rfl⟩
  rw [hpn] at ha ⊢
  rw [hqn] at hb ⊢
  have SI : Hid (∀ w', Below w.heap.size w w' → Calls Try.prog 38 #[.slice pa pn pc, .slice qa qn qc] w' fun e w'' => e = .returned (.bool (decide (xs = ys))) ∧ ∃ n, w'' = w'.drewN n) := fun w' h => sameIDs_at xs ys _ _ w' (by omega) (Rd.later ha h) (Rd.later hb h)
  obtain ⟨r, q1, i1⟩ := eqOp o o' ok ok'
  have E1 : Hid (EqR 23 (opC o) (opC o') r) := q1
  have gd : Try.prog.eqGuardType Try.prog.depth 23 = false := by kernel_rfl
  obtain ⟨PQ, HPQ⟩ : ∃ PQ : Prop, PQ = ((k, o, xs) = (k', o', ys)) := ⟨_, rfl⟩
  rw [← HPQ]
  have HP : Hid (PQ ↔ k = k' ∧ r = true ∧ xs = ys) := by
    show _ ↔ _
    rw [HPQ, i1]
    simp
  have BX : Hid (Blk w.heap.size 26 (recC k o (.slice pa pn pc)) ((w.alloc (.cells (recC k o (.slice pa pn pc)).toArray 26)).alloc (.cells (recC k' o' (.slice qa qn qc)).toArray 26))) := (Blk.new _ _ w).old _
  have BY : Hid (Blk (w.heap.size + 1) 26 (recC k' o' (.slice qa qn qc)) ((w.alloc (.cells (recC k o (.slice pa pn pc)).toArray 26)).alloc (.cells (recC k' o' (.slice qa qn qc)).toArray 26))) := Blk.new2 _ _ w _
  have BW : Hid (Below w.heap.size w ((w.alloc (.cells (recC k o (.slice pa pn pc)).toArray 26)).alloc (.cells (recC k' o' (.slice qa qn qc)).toArray 26))) := below_trans (below_alloc _ _) (below_alloc _ _)
  rw [recC_V, recC_V]
  clear ha hb hl ok ok' q1 i1 HPQ hpn hqn
  go_enter Try.func11, Try.ntmps11
  go_upto_region 1 with fail
  generalize ((w.alloc (.cells (recC k o (.slice pa pn pc)).toArray 26)).alloc (.cells (recC k' o' (.slice qa qn qc)).toArray 26)) = W0 at *
  obtain ⟨X, hX⟩ : ∃ X, w.heap.size = X := ⟨_, rfl⟩
  rw [hX] at BX BY ⊢
  clear hX
  have c0 : W0.cell? ⟨X, 0, none⟩ = some (.int .i64 k) := BX.out.cell 0 _ rfl
  have d0 : W0.cell? ⟨X + 1, 0, none⟩ = some (.int .i64 k') := BY.out.cell 0 _ rfl
  have c8 : W0.cell? ⟨X, 8, none⟩ = some (.slice pa pn pc) := BX.out.cell 8 _ rfl
  have d8 : W0.cell? ⟨X + 1, 8, none⟩ = some (.slice qa qn qc) := BY.out.cell 8 _ rfl
  by_cases ek : k = k'
  case neg =>
    have a0 : (k == k') = false := by simpa using ek
    have HN : Hid (¬ PQ) := fun e => ek (HP.out.1 e).1
    clear ek
    go_wp2_with fail
    go_ret
    exact ⟨AnsB.no HN.out, BW.out⟩
  subst ek
  have a0 : (k == k) = true := by simp
  cases r with
  | false =>
    have HN : Hid (¬ PQ) := fun e => by have := (HP.out.1 e).2.1; cases this
    go_wp2_with (first
      | ((with_reducible refine at_loadG 23 ?_); refine step_loadG (by rfl) 23 _ rfl X 1 rfl (opC o) _ (BX.out.range 1 7) Try.underlying23 rfl (sizO _) ?_)
      | ((with_reducible refine at_loadG 23 ?_); refine step_loadG (by rfl) 23 _ rfl (X + 1) 1 rfl (opC o') _ (BY.out.range 1 7) Try.underlying23 rfl (sizO _) ?_)
      | ((with_reducible refine at_bin .eql 23 ?_); refine step_eql (by rfl) 23 23 _ _ rfl (opC o) (opC o') rfl rfl gd false E1.out ?_))
    go_ret
    exact ⟨AnsB.no HN.out, BW.out⟩
  | true =>
    go_wp2_with (first
      | ((with_reducible refine at_loadG 23 ?_); refine step_loadG (by rfl) 23 _ rfl X 1 rfl (opC o) _ (BX.out.range 1 7) Try.underlying23 rfl (sizO _) ?_)
      | ((with_reducible refine at_loadG 23 ?_); refine step_loadG (by rfl) 23 _ rfl (X + 1) 1 rfl (opC o') _ (BY.out.range 1 7) Try.underlying23 rfl (sizO _) ?_)
      | ((with_reducible refine at_bin .eql 23 ?_); refine step_eql (by rfl) 23 23 _ _ rfl (opC o) (opC o') rfl rfl gd true E1.out ?_))
    refine (SI.out _ BW.out).mono ?_
    rintro e w3 ⟨rfl, n, hw3⟩
    subst hw3
    have B3 : Hid (Below w.heap.size w (W0.drewN n)) := below_drewN BW.out n
    have HB : Hid (AnsB PQ (.returned (.bool (decide (xs = ys))))) := ⟨_, rfl, by rw [HP.out, decide_eq_true_iff]; exact ⟨fun h => ⟨by first | rfl | trivial, by first | rfl | trivial, h⟩, fun h => h.2.2⟩⟩
    generalize decide (xs = ys) = bb at *
    go_wp2_with fail
    go_ret
    exact ⟨HB.out, B3.out⟩
end Go.Proofs.Ytdbjjeaflfoppaa

namespace Go.Proofs.Ytdbjjeaflfoppaa
open Go.RowKit WsM

theorem sizR (k : Int) (o : OpV) (va : Value) : (Try.prog.info? 26).map (·.size) = some (recC k o va).length := by show _ = some 9; kernel_rfl
theorem sizN (n : Nt) : (Try.prog.info? 28).map (·.size) = some (ntL n).length := by show _ = some 6; kernel_rfl
theorem recC_one (k : Int) (o : OpV) (a : Option Addr) (n c : Nat) : ∀ u ∈ recC k o (.slice a n c), u.oneCell' = true := fun u hu => by
  simp only [recC, opC, List.mem_cons, List.mem_append, List.not_mem_nil, or_false] at hu
  rcases hu with rfl | (rfl | rfl | rfl | rfl | rfl | rfl | rfl) | rfl <;> rfl
theorem KD.five (w : World) (T T2 T3 T4 T5 : TypeId) (cs cs2 cs3 cs4 cs5 : List Value) : KD w [(w.heap.size, T, cs), (w.heap.size + 1, T2, cs2), (w.heap.size + 1 + 1, T3, cs3), (w.heap.size + 1 + 1 + 1, T4, cs4), (w.heap.size + 1 + 1 + 1 + 1, T5, cs5)] (((((w.alloc (.cells cs.toArray T)).alloc (.cells cs2.toArray T2)).alloc (.cells cs3.toArray T3)).alloc (.cells cs4.toArray T4)).alloc (.cells cs5.toArray T5)) := by
  have := (KD.four w T T2 T3 T4 cs cs2 cs3 cs4).new T5 cs5
  rwa [size_al, size_al, size_al, size_al] at this
theorem KD.six (w : World) (T T2 T3 T4 T5 T6 : TypeId) (cs cs2 cs3 cs4 cs5 cs6 : List Value) : KD w [(w.heap.size, T, cs), (w.heap.size + 1, T2, cs2), (w.heap.size + 1 + 1, T3, cs3), (w.heap.size + 1 + 1 + 1, T4, cs4), (w.heap.size + 1 + 1 + 1 + 1, T5, cs5), (w.heap.size + 1 + 1 + 1 + 1 + 1, T6, cs6)] ((((((w.alloc (.cells cs.toArray T)).alloc (.cells cs2.toArray T2)).alloc (.cells cs3.toArray T3)).alloc (.cells cs4.toArray T4)).alloc (.cells cs5.toArray T5)).alloc (.cells cs6.toArray T6)) := by
  have := (KD.five w T T2 T3 T4 T5 cs cs2 cs3 cs4 cs5).new T6 cs6
  rwa [size_al, size_al, size_al, size_al, size_al] at this
theorem opZ_ok : opZ.Ok := ⟨by unfold I64; decide, by unfold I64; decide, by unfold I64; decide, by unfold I64; decide, by unfold I64; decide, by unfold I64; decide, by decide⟩
theorem usedM_ok {m : Nat} {o : OpV} (h : o.Ok) : (usedM m o).Ok := by
  have z : I64 0 := by unfold I64; decide
  have s : ∀ (c : Prop) [Decidable c] (x : Int), I64 x → I64 (if c then x else 0) := fun c _ x hx => by split <;> assumption
  refine ⟨h.kind, s _ _ h.loan, s _ _ h.amount, s _ _ h.rate, s _ _ h.count, s _ _ h.days, ?_⟩
  show (if _ then o.text else _).size ≤ _
  split
  · exact h.text
  · decide
theorem usedV_ok {o : OpV} (h : o.Ok) : (usedV o).Ok := by
  unfold usedV
  split
  · exact usedM_ok h
  · exact opZ_ok
/-- What usedRecord answers, as a record. -/
theorem usedRV_is (k : Int) (o : OpV) (ok : o.Ok) (a : Option Addr) (n c : Nat) (xs : List Int) (w : World) (h : RdI w (.slice a n c) xs) : ∃ (ku : Int) (ou : OpV) (ua : Option Addr) (un uc : Nat) (xu : List Int), usedRV k o (.slice a n c) = .agg (recC ku ou (.slice ua un uc)).toArray ∧ ou.Ok ∧ RdI w (.slice ua un uc) xu ∧ xu.length ≤ xs.length ∧ (recOk k o = true → (ku, ou, xu) = usR k o xs) := by
  have rn : RdI w (.slice none 0 0) [] := ⟨none, 0, rfl, Nat.le_refl _, fun _ => rfl, fun i hi => by simp at hi⟩
  unfold usedRV
  by_cases k1 : k = 1
  · rw [if_pos k1]
    refine ⟨_, _, none, 0, 0, [], rfl, usedV_ok ok, rn, Nat.zero_le _, fun hr => ?_⟩
    unfold recOk at hr
    rw [if_pos k1] at hr
    unfold usR
    rw [if_pos k1, hr]
    rfl
  · rw [if_neg k1]
    by_cases k2 : k = 2
    · rw [if_pos k2]
      refine ⟨_, _, a, n, c, xs, rfl, opZ_ok, h, Nat.le_refl _, fun _ => ?_⟩
      unfold usR
      rw [if_neg k1]
    · rw [if_neg k2]
      refine ⟨_, _, none, 0, 0, [], rfl, opZ_ok, rn, Nat.zero_le _, fun hr => ?_⟩
      unfold recOk at hr
      rw [if_neg k1] at hr
      exact absurd (by simpa using hr) k2
theorem po_slices {w : World} {vl vn : Value} {p : Po} (h : RdPo w vl vn p) : ∃ a n c a' n' c', vl = .slice a n c ∧ vn = .slice a' n' c' := by
  obtain ⟨pvs, _, h2, _⟩ := h.ls
  obtain ⟨a, c, e, -, -⟩ := h2.len
  obtain ⟨a', c', e', -, -⟩ := h.ns.len
  exact ⟨a, _, c, a', _, c', e, e'⟩
theorem yieldsIf_eql {ops : Array Oper} {S : World → Prop} {op : Oper} {a : Act} (hw : Region.wanted op (yielded ops a.tmps) = true) (t t' : TypeId) (x y : Operand) (ho : op.op = .binOp .eql t x y t') (X Y : List Value) (hx : a.eval x = .agg X.toArray) (hy : a.eval y = .agg Y.toArray) (hg : Try.prog.eqGuardType Try.prog.depth t = false) {r : Bool} (he : EqR t X Y r) : YieldsIf Try.prog ops S op (.bool r) a := .inl ⟨hw, fun w _ => by
  unfold execOp
  simp only [ho, hx, hy, Sem.run_bind, run_eqGuard_agg w _ _ _ _ _ _ hg, Result.andThen_ok, run_eql_struct, he w, Sem.run_pure]⟩
structure PoB (p : Po) : Prop where
  ls : p.ls.length ≤ 100000000000
  ns : p.ns.length ≤ 100000000000
  pl : ∀ l ∈ p.ls, l.pl.length ≤ 1000000000000
  len : (poB p).length ≤ 100000000000
end Go.Proofs.Ytdbjjeaflfoppaa

namespace Go.Proofs.Ytdbjjeaflfoppaa
open Go.ChangeShapes Go.WideShapes Go.ChangeAt Go.RowKit

section
variable {H : Type} {enc : TypeId × Value → H} {W : World}
theorem bulk_part {d : DataW H} {l : List (DataW H)} (h : d ∈ l) (hk : Rows.uptoBulk (DataW.agg l) ≤ 1048576) : Rows.uptoBulk d ≤ 1048576 := by
  have := bulk_mem h
  simp only [Rows.uptoBulk.eq_6] at hk
  omega

set_option maxRecDepth 100000 in
theorem op_cells {fuel : Nat} {l : List Value} {x : DataW H × List MemPlace} (hf : DataW.trod enc Try.prog W 0 (fun _ => true) true fuel 23 l = some x) (hk : Rows.uptoBulk x.1 ≤ 1048576) :
    ∃ o : OpV, l = [.int .i64 o.kind, .int .i64 o.loan, .int .i64 o.amount, .int .i64 o.rate, .int .i64 o.count, .int .i64 o.days, .string o.text] ∧ o.Ok := by
  have HK : Hid (Rows.uptoBulk x.1 ≤ 1048576) := hk
  clear hk
  obtain ⟨ys, kk, hkk, hdd, hlen, hyl, hfl⟩ := DataW.trod_struct Try.underlying23 hf
  have cI : Try.prog.cellsOf 3 = 1 := by kernel_rfl
  have cJ : Try.prog.cellsOf 2 = 1 := by kernel_rfl
  have cS : Try.prog.cellsOf 9 = 1 := by kernel_rfl
  have cT : Try.prog.cellsOf 23 = 7 := by kernel_rfl
  rw [cT] at hlen
  match ys, hyl, l, hlen with
  | [y0, y1, y2, y3, y4, y5, y6], _, [v0, v1, v2, v3, v4, v5, v6], _ =>
    have t0 := hfl 0 _ rfl
    have t1 := hfl 1 _ rfl
    have t2 := hfl 2 _ rfl
    have t3 := hfl 3 _ rfl
    have t4 := hfl 4 _ rfl
    have t5 := hfl 5 _ rfl
    have t6 := hfl 6 _ rfl
    simp [cI, cJ, cS] at t0 t1 t2 t3 t4 t5 t6
    obtain ⟨n0, e0, _, f0⟩ := DataW.trod_int Try.underlying3 t0
    obtain ⟨n1, e1, _, f1⟩ := DataW.trod_int Try.underlying3 t1
    obtain ⟨n2, e2, _, f2⟩ := DataW.trod_int Try.underlying2 t2
    obtain ⟨n3, e3, _, f3⟩ := DataW.trod_int Try.underlying2 t3
    obtain ⟨n4, e4, _, f4⟩ := DataW.trod_int Try.underlying3 t4
    obtain ⟨n5, e5, _, f5⟩ := DataW.trod_int Try.underlying3 t5
    obtain ⟨n6, e6, g6, f6⟩ := DataW.trod_string Try.underlying9 t6
    simp at e0 e1 e2 e3 e4 e5 e6
    subst e0 e1 e2 e3 e4 e5 e6
    have ed : x.1 = DataW.agg ([y0, y1, y2, y3, y4, y5, y6].map (·.1)) := congrArg Prod.fst hdd
    have hb : n6.size ≤ 1048576 := by
      refine bulk_string (H := H) ?_
      have g7 : y6.1 = DataW.lit (.string n6.data.toList) := by rw [g6]
      rw [← g7]
      exact bulk_part (l := [y0, y1, y2, y3, y4, y5, y6].map (·.1)) (by simp) (by rw [← ed]; exact HK.out)
    exact ⟨⟨n0, n1, n2, n3, n4, n5, n6⟩, rfl, ⟨bounds f0, bounds f1, bounds f2, bounds f3, bounds f4, bounds f5, Nat.le_trans hb (by decide)⟩⟩

theorem slice_cells {t e : TypeId} {k : IntKind} {fuel : Nat} {u : Value} {x : DataW H × List MemPlace} (ht : Try.prog.underlying t = some (.slice e)) (he : Try.prog.underlying e = some (.int k)) (hc : Try.prog.cellsOf e = 1)
    (hf : DataW.trod enc Try.prog W 0 (fun _ => true) true fuel t [u] = some x) : ∃ a n c, u = .slice a n c := by
  rcases open_ints ht he hc hf with ⟨hcs, _⟩ | ⟨x, l, c, zs, hcs, _⟩
  · simp at hcs; exact ⟨_, _, _, hcs⟩
  · simp at hcs; exact ⟨_, _, _, hcs⟩

set_option maxRecDepth 100000 in
theorem rec_open {base : Nat} {v : Value} {d : DataW H} {ps : List MemPlace}
    (hval : Value.okWide Try.prog W .any base 26 v) (hd : DataW.Trod enc Try.prog W 0 (fun _ => true) true 26 v d ps) (hk : Rows.uptoBulk d ≤ 1048576) :
    ∃ (k : Int) (o : OpV) (xs : List Int) (va : Value), v = recV k o va ∧ I64 k ∧ o.Ok ∧ I64s xs ∧ xs.length ≤ 1048576 ∧ RdI W va xs := by
  have HK : Hid (Rows.uptoBulk d ≤ 1048576) := hk
  clear hk
  obtain ⟨cs, rfl, hs⟩ := okWide_struct Try.underlying26 hval
  obtain ⟨fuel, hf⟩ := hd
  obtain ⟨ys, kk, hkk, hdd, hlen, hyl, hfl⟩ := DataW.trod_struct Try.underlying26 hf
  have cI : Try.prog.cellsOf 3 = 1 := by kernel_rfl
  have cL : Try.prog.cellsOf 24 = 1 := by kernel_rfl
  have cO : Try.prog.cellsOf 23 = 7 := by kernel_rfl
  have cT : Try.prog.cellsOf 26 = 9 := by kernel_rfl
  rw [cT] at hs
  obtain ⟨l⟩ := cs
  simp at hs
  simp only [Value.cells] at hfl
  match ys, hyl, l, hs with
  | [y0, y1, y2], _, [v0, v1, v2, v3, v4, v5, v6, v7, v8], _ =>
    have t0 := hfl 0 _ rfl
    have t1 := hfl 1 _ rfl
    have t2 := hfl 2 _ rfl
    simp [cI, cL, cO] at t0 t1 t2
    have ed := (Prod.mk.inj hdd).1
    have hp : ∀ y ∈ [y0, y1, y2], Rows.uptoBulk y.1 ≤ 1048576 := fun y hy => bulk_part (l := [y0, y1, y2].map (·.1)) (List.mem_map.2 ⟨y, hy, rfl⟩) (by rw [← ed]; exact HK.out)
    obtain ⟨n0, e0, _, f0⟩ := DataW.trod_int Try.underlying3 t0
    obtain ⟨o, eo, oo⟩ := op_cells t1 (hp y1 (by simp))
    obtain ⟨a, n, c, rfl⟩ := slice_cells Try.underlying24 Try.underlying3 (by kernel_rfl) t2
    obtain ⟨zs, hz1, hz2, hz3, hz4⟩ := ints_open (a := a) (len := n) (cap := c) (d := y2.1) (ps := y2.2) Try.underlying24 Try.underlying3 (by kernel_rfl) ⟨_, t2⟩
    simp at e0 eo
    obtain ⟨rfl, rfl, rfl, rfl, rfl, rfl, rfl⟩ := eo
    subst e0
    have hb := bulk_slice hz4
    have hb2 := hp y2 (by simp)
    exact ⟨n0, o, zs, .slice a n c, rfl, bounds f0, oo, fun x hx => bounds (hz3 x hx), by omega, hz2⟩
end
end Go.Proofs.Ytdbjjeaflfoppaa

namespace Go.Proofs.Ytdbjjeaflfoppaa
open Go.ChangeShapes Go.WideShapes Go.ChangeAt Go.RowKit WsM

section
variable {H : Type} {enc : TypeId × Value → H} {W : World}
theorem take_one {cs : List Value} {i : Nat} {v : Value} (h : (cs.drop i).take 1 = [v]) : cs[i]? = some v := by
  have := congrArg (fun l => l[0]?) h
  simpa using this
set_option maxRecDepth 100000 in
theorem tm_cells {fuel : Nat} {l : List Value} {x : DataW H × List MemPlace} (hf : DataW.trod enc Try.prog W 0 (fun _ => true) true fuel 55 l = some x) : ∃ a : List Int, l = i6 a ∧ a.length = 6 ∧ I64s a := by
  obtain ⟨ys, kk, hkk, hdd, hlen, hyl, hfl⟩ := DataW.trod_struct Try.underlying55 hf
  have cT : Try.prog.cellsOf 55 = 6 := by kernel_rfl
  have cint : Try.prog.cellsOf 3 = 1 := by kernel_rfl
  have cint64 : Try.prog.cellsOf 2 = 1 := by kernel_rfl
  rw [cT] at hlen
  match ys, hyl, l, hlen with
  | [y0, y1, y2, y3, y4, y5], _, [v0, v1, v2, v3, v4, v5], _ =>
    have t0 := hfl 0 _ rfl
    have t1 := hfl 1 _ rfl
    have t2 := hfl 2 _ rfl
    have t3 := hfl 3 _ rfl
    have t4 := hfl 4 _ rfl
    have t5 := hfl 5 _ rfl
    simp [cint, cint64] at t0 t1 t2 t3 t4 t5
    obtain ⟨n0, e0, _, f0⟩ := DataW.trod_int Try.underlying3 t0
    obtain ⟨n1, e1, _, f1⟩ := DataW.trod_int Try.underlying2 t1
    obtain ⟨n2, e2, _, f2⟩ := DataW.trod_int Try.underlying2 t2
    obtain ⟨n3, e3, _, f3⟩ := DataW.trod_int Try.underlying3 t3
    obtain ⟨n4, e4, _, f4⟩ := DataW.trod_int Try.underlying3 t4
    obtain ⟨n5, e5, _, f5⟩ := DataW.trod_int Try.underlying3 t5
    simp at e0 e1 e2 e3 e4 e5
    subst e0 e1 e2 e3 e4 e5
    have hI : I64s [n0, n1, n2, n3, n4, n5] := fun z hz => by
      simp only [List.mem_cons, List.not_mem_nil, or_false] at hz
      rcases hz with rfl | rfl | rfl | rfl | rfl | rfl
      · exact bounds f0
      · exact bounds f1
      · exact bounds f2
      · exact bounds f3
      · exact bounds f4
      · exact bounds f5
    exact ⟨[n0, n1, n2, n3, n4, n5], rfl, rfl, hI⟩
set_option maxRecDepth 100000 in
theorem pa_cells {fuel : Nat} {l : List Value} {x : DataW H × List MemPlace} (hf : DataW.trod enc Try.prog W 0 (fun _ => true) true fuel 63 l = some x) : ∃ a : List Int, l = i5 a ∧ a.length = 5 ∧ I64s a := by
  obtain ⟨ys, kk, hkk, hdd, hlen, hyl, hfl⟩ := DataW.trod_struct Try.underlying63 hf
  have cT : Try.prog.cellsOf 63 = 5 := by kernel_rfl
  have cint64 : Try.prog.cellsOf 2 = 1 := by kernel_rfl
  rw [cT] at hlen
  match ys, hyl, l, hlen with
  | [y0, y1, y2, y3, y4], _, [v0, v1, v2, v3, v4], _ =>
    have t0 := hfl 0 _ rfl
    have t1 := hfl 1 _ rfl
    have t2 := hfl 2 _ rfl
    have t3 := hfl 3 _ rfl
    have t4 := hfl 4 _ rfl
    simp [cint64] at t0 t1 t2 t3 t4
    obtain ⟨n0, e0, _, f0⟩ := DataW.trod_int Try.underlying2 t0
    obtain ⟨n1, e1, _, f1⟩ := DataW.trod_int Try.underlying2 t1
    obtain ⟨n2, e2, _, f2⟩ := DataW.trod_int Try.underlying2 t2
    obtain ⟨n3, e3, _, f3⟩ := DataW.trod_int Try.underlying2 t3
    obtain ⟨n4, e4, _, f4⟩ := DataW.trod_int Try.underlying2 t4
    simp at e0 e1 e2 e3 e4
    subst e0 e1 e2 e3 e4
    have hI : I64s [n0, n1, n2, n3, n4] := fun z hz => by
      simp only [List.mem_cons, List.not_mem_nil, or_false] at hz
      rcases hz with rfl | rfl | rfl | rfl | rfl
      · exact bounds f0
      · exact bounds f1
      · exact bounds f2
      · exact bounds f3
      · exact bounds f4
    exact ⟨[n0, n1, n2, n3, n4], rfl, rfl, hI⟩
set_option maxRecDepth 100000 in
theorem cs_cells {fuel : Nat} {l : List Value} {x : DataW H × List MemPlace} (hf : DataW.trod enc Try.prog W 0 (fun _ => true) true fuel 61 l = some x) : ∃ (s : Int) (z : Bool) (a : List Int), l = cs15 s z a ∧ I64s [s] ∧ a.length = 13 ∧ I64s a := by
  obtain ⟨ys, kk, hkk, hdd, hlen, hyl, hfl⟩ := DataW.trod_struct Try.underlying61 hf
  have cT : Try.prog.cellsOf 61 = 15 := by kernel_rfl
  have cbool : Try.prog.cellsOf 4 = 1 := by kernel_rfl
  have cint : Try.prog.cellsOf 3 = 1 := by kernel_rfl
  have cint64 : Try.prog.cellsOf 2 = 1 := by kernel_rfl
  rw [cT] at hlen
  match ys, hyl, l, hlen with
  | [y0, y1, y2, y3, y4, y5, y6, y7, y8, y9, y10, y11, y12, y13, y14], _, [v0, v1, v2, v3, v4, v5, v6, v7, v8, v9, v10, v11, v12, v13, v14], _ =>
    have t0 := hfl 0 _ rfl
    have t1 := hfl 1 _ rfl
    have t2 := hfl 2 _ rfl
    have t3 := hfl 3 _ rfl
    have t4 := hfl 4 _ rfl
    have t5 := hfl 5 _ rfl
    have t6 := hfl 6 _ rfl
    have t7 := hfl 7 _ rfl
    have t8 := hfl 8 _ rfl
    have t9 := hfl 9 _ rfl
    have t10 := hfl 10 _ rfl
    have t11 := hfl 11 _ rfl
    have t12 := hfl 12 _ rfl
    have t13 := hfl 13 _ rfl
    have t14 := hfl 14 _ rfl
    simp [cbool, cint, cint64] at t0 t1 t2 t3 t4 t5 t6 t7 t8 t9 t10 t11 t12 t13 t14
    obtain ⟨n0, e0, _, f0⟩ := DataW.trod_int Try.underlying3 t0
    obtain ⟨n1, e1, _⟩ := DataW.trod_bool Try.underlying4 t1
    obtain ⟨n2, e2, _, f2⟩ := DataW.trod_int Try.underlying3 t2
    obtain ⟨n3, e3, _, f3⟩ := DataW.trod_int Try.underlying3 t3
    obtain ⟨n4, e4, _, f4⟩ := DataW.trod_int Try.underlying3 t4
    obtain ⟨n5, e5, _, f5⟩ := DataW.trod_int Try.underlying3 t5
    obtain ⟨n6, e6, _, f6⟩ := DataW.trod_int Try.underlying3 t6
    obtain ⟨n7, e7, _, f7⟩ := DataW.trod_int Try.underlying2 t7
    obtain ⟨n8, e8, _, f8⟩ := DataW.trod_int Try.underlying2 t8
    obtain ⟨n9, e9, _, f9⟩ := DataW.trod_int Try.underlying3 t9
    obtain ⟨n10, e10, _, f10⟩ := DataW.trod_int Try.underlying3 t10
    obtain ⟨n11, e11, _, f11⟩ := DataW.trod_int Try.underlying3 t11
    obtain ⟨n12, e12, _, f12⟩ := DataW.trod_int Try.underlying3 t12
    obtain ⟨n13, e13, _, f13⟩ := DataW.trod_int Try.underlying2 t13
    obtain ⟨n14, e14, _, f14⟩ := DataW.trod_int Try.underlying2 t14
    simp at e0 e1 e2 e3 e4 e5 e6 e7 e8 e9 e10 e11 e12 e13 e14
    subst e0 e1 e2 e3 e4 e5 e6 e7 e8 e9 e10 e11 e12 e13 e14
    have hI : I64s [n0, n2, n3, n4, n5, n6, n7, n8, n9, n10, n11, n12, n13, n14] := fun z hz => by
      simp only [List.mem_cons, List.not_mem_nil, or_false] at hz
      rcases hz with rfl | rfl | rfl | rfl | rfl | rfl | rfl | rfl | rfl | rfl | rfl | rfl | rfl | rfl
      · exact bounds f0
      · exact bounds f2
      · exact bounds f3
      · exact bounds f4
      · exact bounds f5
      · exact bounds f6
      · exact bounds f7
      · exact bounds f8
      · exact bounds f9
      · exact bounds f10
      · exact bounds f11
      · exact bounds f12
      · exact bounds f13
      · exact bounds f14
    exact ⟨n0, n1, [n2, n3, n4, n5, n6, n7, n8, n9, n10, n11, n12, n13, n14], rfl, fun z hz => hI z (by simp at hz; simp [hz]), rfl, fun z hz => hI z (List.mem_cons_of_mem _ hz)⟩
set_option maxRecDepth 100000 in
theorem ins_cells {fuel : Nat} {l : List Value} {x : DataW H × List MemPlace} (hf : DataW.trod enc Try.prog W 0 (fun _ => true) true fuel 108 l = some x) : ∃ i : Ins, l = insL i ∧ i.Ok := by
  obtain ⟨ys, kk, hkk, hdd, hlen, hyl, hfl⟩ := DataW.trod_struct Try.underlying108 hf
  have cT : Try.prog.cellsOf 108 = 4 := by kernel_rfl
  have cbool : Try.prog.cellsOf 4 = 1 := by kernel_rfl
  have cint : Try.prog.cellsOf 3 = 1 := by kernel_rfl
  have cint64 : Try.prog.cellsOf 2 = 1 := by kernel_rfl
  rw [cT] at hlen
  match ys, hyl, l, hlen with
  | [y0, y1, y2, y3], _, [v0, v1, v2, v3], _ =>
    have t0 := hfl 0 _ rfl
    have t1 := hfl 1 _ rfl
    have t2 := hfl 2 _ rfl
    have t3 := hfl 3 _ rfl
    simp [cbool, cint, cint64] at t0 t1 t2 t3
    obtain ⟨n0, e0, _, f0⟩ := DataW.trod_int Try.underlying3 t0
    obtain ⟨n1, e1, _, f1⟩ := DataW.trod_int Try.underlying2 t1
    obtain ⟨n2, e2, _, f2⟩ := DataW.trod_int Try.underlying2 t2
    obtain ⟨n3, e3, _⟩ := DataW.trod_bool Try.underlying4 t3
    simp at e0 e1 e2 e3
    subst e0 e1 e2 e3
    have hI : I64s [n0, n1, n2] := fun z hz => by
      simp only [List.mem_cons, List.not_mem_nil, or_false] at hz
      rcases hz with rfl | rfl | rfl
      · exact bounds f0
      · exact bounds f1
      · exact bounds f2
    exact ⟨⟨n0, n1, n2, n3⟩, rfl, ⟨hI⟩⟩
set_option maxRecDepth 100000 in
theorem nt_cells {fuel : Nat} {l : List Value} {x : DataW H × List MemPlace} (hf : DataW.trod enc Try.prog W 0 (fun _ => true) true fuel 28 l = some x) : ∃ n : Nt, l = ntL n ∧ n.Ok := by
  obtain ⟨ys, kk, hkk, hdd, hlen, hyl, hfl⟩ := DataW.trod_struct Try.underlying28 hf
  have cT : Try.prog.cellsOf 28 = 6 := by kernel_rfl
  have cbool : Try.prog.cellsOf 4 = 1 := by kernel_rfl
  have cint : Try.prog.cellsOf 3 = 1 := by kernel_rfl
  have cint64 : Try.prog.cellsOf 2 = 1 := by kernel_rfl
  rw [cT] at hlen
  match ys, hyl, l, hlen with
  | [y0, y1, y2, y3, y4, y5], _, [v0, v1, v2, v3, v4, v5], _ =>
    have t0 := hfl 0 _ rfl
    have t1 := hfl 1 _ rfl
    have t2 := hfl 2 _ rfl
    have t3 := hfl 3 _ rfl
    have t4 := hfl 4 _ rfl
    have t5 := hfl 5 _ rfl
    simp [cbool, cint, cint64] at t0 t1 t2 t3 t4 t5
    obtain ⟨n0, e0, _, f0⟩ := DataW.trod_int Try.underlying3 t0
    obtain ⟨n1, e1, _, f1⟩ := DataW.trod_int Try.underlying3 t1
    obtain ⟨n2, e2, _, f2⟩ := DataW.trod_int Try.underlying3 t2
    obtain ⟨n3, e3, _, f3⟩ := DataW.trod_int Try.underlying3 t3
    obtain ⟨n4, e4, _, f4⟩ := DataW.trod_int Try.underlying2 t4
    obtain ⟨n5, e5, _⟩ := DataW.trod_bool Try.underlying4 t5
    simp at e0 e1 e2 e3 e4 e5
    subst e0 e1 e2 e3 e4 e5
    have hI : I64s [n0, n1, n2, n3, n4] := fun z hz => by
      simp only [List.mem_cons, List.not_mem_nil, or_false] at hz
      rcases hz with rfl | rfl | rfl | rfl | rfl
      · exact bounds f0
      · exact bounds f1
      · exact bounds f2
      · exact bounds f3
      · exact bounds f4
    exact ⟨⟨[n0, n1, n2, n3, n4], n5⟩, rfl, ⟨rfl, hI⟩⟩
theorem bk_cells {fuel : Nat} {cs : List Value} {x : DataW H × List MemPlace} (hf : DataW.trod enc Try.prog W 0 (fun _ => true) true fuel 59 cs = some x) : ∃ l : List Int, cs = i12 l ∧ l.length = 12 ∧ I64s l := by
  obtain ⟨ys, kk, _, _, hlen, hyl, hfl⟩ := DataW.trod_struct Try.underlying59 hf
  have cB : Try.prog.cellsOf 59 = 12 := by kernel_rfl
  have cN : Try.prog.cellsOf 57 = 12 := by kernel_rfl
  have cI : Try.prog.cellsOf 2 = 1 := by kernel_rfl
  rw [cB] at hlen
  have t0 := hfl 0 _ rfl
  simp [cN] at t0
  rw [List.take_of_length_le (by omega)] at t0
  match ys, hyl with
  | [y0], _ =>
    obtain ⟨xs, m, _, _, _, hn, hg⟩ := DataW.trod_array Try.underlying57 t0
    simp only [cI, Nat.mul_one] at hg
    have key : ∀ i, i < 12 → ∃ n : Int, cs[i]? = some (.int .i64 n) ∧ -9223372036854775808 ≤ n ∧ n ≤ 9223372036854775807 := fun i hi => by
      have f0 := hg i hi
      rw [List.getElem?_eq_getElem (by omega)] at f0
      obtain ⟨n, hc, _, hw⟩ := DataW.trod_int Try.underlying2 f0
      exact ⟨n, take_one hc, bounds hw⟩
    have vint : ∀ v ∈ cs, ∃ n : Int, v = .int .i64 n ∧ -9223372036854775808 ≤ n ∧ n ≤ 9223372036854775807 := fun v hv => by
      obtain ⟨i, hi, e⟩ := List.getElem_of_mem hv
      obtain ⟨n, h1, h2⟩ := key i (by omega)
      rw [List.getElem?_eq_getElem hi, e] at h1
      exact ⟨n, Option.some.inj h1, h2⟩
    have ex : ∀ cs : List Value, (∀ v ∈ cs, ∃ n : Int, v = .int .i64 n ∧ -9223372036854775808 ≤ n ∧ n ≤ 9223372036854775807) → ∃ l : List Int, cs = l.map (Value.int .i64) ∧ I64s l := by
      intro cs
      induction cs with
      | nil => intro _; exact ⟨[], rfl, fun x hx => by cases hx⟩
      | cons v r ih =>
        intro h
        obtain ⟨n, rfl, hn⟩ := h v (by simp)
        obtain ⟨l, rfl, hl⟩ := ih (fun v hv => h v (by simp [hv]))
        exact ⟨n :: l, rfl, fun m hm => (List.mem_cons.1 hm).elim (fun e => by rw [e]; exact hn) (hl m)⟩
    obtain ⟨l, rfl, hl⟩ := ex cs vint
    rw [List.length_map] at hlen
    refine ⟨l, ?_, hlen, hl⟩
    match l, hlen with
    | [a0, a1, a2, a3, a4, a5, a6, a7, a8, a9, a10, a11], _ => rfl

/-- A slice of structs that came in. -/
theorem structs_open {α : Type} {t e : TypeId} {K : Nat} (x0 : α) (El : α → List Value → DataW H → Prop) (ht : Try.prog.underlying t = some (.slice e)) (ce : Try.prog.cellsOf e = K) (hK : 0 < K)
    (el : ∀ fuel l y, DataW.trod enc Try.prog W 0 (fun _ => true) true fuel e l = some y → ∃ x, El x l y.1) {fuel : Nat} {v : Value} {y : DataW H × List MemPlace} (hf : DataW.trod enc Try.prog W 0 (fun _ => true) true fuel t [v] = some y) :
    ∃ (xs : List α) (cs : List (List Value)) (ds : List (DataW H)), cs.length = xs.length ∧ ds.length = xs.length ∧ RdS K W v cs ∧ (∀ i, i < xs.length → El (xs.getD i x0) (cs.getD i []) (ds.getD i .nil)) ∧ Rows.uptoBulkAll ds + 1 ≤ Rows.uptoBulk y.1 := by
  rcases Go.Deep.open_slice ht hf with ⟨hcs, hy⟩ | ⟨a, len, cap, m, q, D, Pl, hcs, _, hle, hm, hmm, hd, hx⟩
  · injection hcs with hcs _
    subst hcs
    exact ⟨[], [], [], rfl, rfl, ⟨none, 0, rfl, Nat.le_refl _, fun _ => rfl, fun i hi => by simp at hi⟩, (fun i hi => by simp at hi), by rw [hy]; simp [Rows.uptoBulkAll, Rows.uptoBulk]⟩
  · injection hcs with hcs _
    subst hcs
    simp only [if_true] at hmm
    rw [ce] at hx
    have hy1 : y.1 = .slice ((List.range len).map D) ((List.range (m - len)).map fun j => D (len + j)) := by rw [hd]
    obtain ⟨b, off, spot⟩ := a
    have fin : Rows.uptoBulkAll ((List.range len).map D) + 1 ≤ Rows.uptoBulk y.1 := by rw [hy1]; simp only [Rows.uptoBulk]; omega
    by_cases h0 : len = 0
    · subst h0
      exact ⟨[], [], [], rfl, rfl, ⟨_, cap, rfl, Nat.zero_le _, (fun h => by cases h), fun i hi => by simp at hi⟩, (fun i hi => by simp at hi), by simpa using fin⟩
    have hspot : spot = none := by
      obtain ⟨cs', g1, _⟩ := hx 0 (by omega)
      obtain ⟨_, hlen, hcell⟩ := World.cells?_some g1
      have := hcell 0 (by omega)
      rw [List.getElem?_eq_getElem (by omega)] at this
      simpa [Addr.add] using World.cell?_spot this
    subst hspot
    have key : ∀ i, ∃ p : α × List Value, i < len → El p.1 p.2 (D i) ∧ b < W.heap.size ∧ W.rangeAt b (off + i * K) p.2 := fun i => by
      by_cases hi : i < len
      · obtain ⟨cs', g1, g2⟩ := hx i (by omega)
        obtain ⟨_, hlen, hcell⟩ := World.cells?_some g1
        obtain ⟨x, ex⟩ := el _ _ _ g2
        have r : W.rangeAt b (off + i * K) cs' := fun j u hj => by
          have hj3 : j < K := by have := (List.getElem?_eq_some_iff.1 hj).1; omega
          have := hcell j hj3
          rw [addr_add, addr_add] at this
          rw [this]; exact hj
        refine ⟨(x, cs'), fun _ => ⟨ex, ?_, r⟩⟩
        have c0 := r 0 _ (List.getElem?_eq_getElem (by omega))
        exact World.block_lt_of_cell? W _ c0
      · exact ⟨(x0, []), fun h => absurd h hi⟩
    let f := fun i => Classical.choose (key i)
    have hf2 : ∀ i, i < len → El (f i).1 (f i).2 (D i) ∧ b < W.heap.size ∧ W.rangeAt b (off + i * K) (f i).2 := fun i => Classical.choose_spec (key i)
    have gx : ∀ {β : Type} (g : Nat → β) (z : β) i, i < len → ((List.range len).map g).getD i z = g i := fun g z i hi => by simp [List.getD_eq_getElem?_getD, hi]
    refine ⟨(List.range len).map fun i => (f i).1, (List.range len).map fun i => (f i).2, (List.range len).map D, by simp, by simp, ⟨some ⟨b, off, none⟩, cap, by simp, by simpa using hle, (fun h => by cases h), fun i hi => ?_⟩, fun i hi => ?_, fin⟩
    · have hin : i < len := by simpa using hi
      rw [gx _ _ i hin]
      obtain ⟨_, k1, k2⟩ := hf2 i hin
      exact ⟨b, off, rfl, k1, k2⟩
    · have hin : i < len := by simpa using hi
      rw [gx _ _ i hin, gx _ _ i hin, gx _ _ i hin]
      exact (hf2 i hin).1
theorem map_of {α : Type} {x0 : α} {f : α → List Value} {xs : List α} {cs : List (List Value)} (hl : cs.length = xs.length) (h : ∀ i, i < xs.length → cs.getD i [] = f (xs.getD i x0)) : cs = xs.map f := by
  apply List.ext_getElem (by simpa using hl)
  intro i h1 h2
  have := h i (by omega)
  rw [getD_at h1, getD_at (by omega)] at this
  rw [this, List.getElem_map]
theorem all_of {α : Type} {x0 : α} {p : α → Prop} {xs : List α} (h : ∀ i, i < xs.length → p (xs.getD i x0)) : ∀ x ∈ xs, p x := fun x hx => by
  obtain ⟨i, hi, rfl⟩ := List.getElem_of_mem hx
  have := h i hi
  rwa [getD_at hi] at this
theorem plan_open {fuel : Nat} {v : Value} {y : DataW H × List MemPlace} (hf : DataW.trod enc Try.prog W 0 (fun _ => true) true fuel 56 [v] = some y) : ∃ is : List Ins, RdS 4 W v (is.map insL) ∧ (∀ i ∈ is, i.Ok) ∧ is.length + 1 ≤ Rows.uptoBulk y.1 := by
  obtain ⟨xs, cs, ds, h1, h2, h3, h4, h5⟩ := structs_open (K := 4) (⟨0, 0, 0, false⟩ : Ins) (fun i l _ => l = insL i ∧ i.Ok) Try.underlying56 (by kernel_rfl) (by decide) (fun fuel l y h => ins_cells h) hf
  have e := map_of (f := insL) h1 (fun i hi => (h4 i hi).1)
  refine ⟨xs, by rw [← e]; exact h3, all_of (x0 := ⟨0, 0, 0, false⟩) (fun i hi => (h4 i hi).2), ?_⟩
  have := bulk_len ds
  omega
theorem notes_open {fuel : Nat} {v : Value} {y : DataW H × List MemPlace} (hf : DataW.trod enc Try.prog W 0 (fun _ => true) true fuel 30 [v] = some y) : ∃ ns : List Nt, RdS 6 W v (ns.map ntL) ∧ (∀ n ∈ ns, n.Ok) ∧ ns.length + 1 ≤ Rows.uptoBulk y.1 := by
  obtain ⟨xs, cs, ds, h1, h2, h3, h4, h5⟩ := structs_open (K := 6) nt0 (fun i l _ => l = ntL i ∧ i.Ok) Try.underlying30 (by kernel_rfl) (by decide) (fun fuel l y h => nt_cells h) hf
  have e := map_of (f := ntL) h1 (fun i hi => (h4 i hi).1)
  refine ⟨xs, by rw [← e]; exact h3, all_of (x0 := nt0) (fun i hi => (h4 i hi).2), ?_⟩
  have := bulk_len ds
  omega
def LnEl (W : World) (l : Ln) (cs : List Value) (d : DataW H) : Prop := ∃ pv, cs = lnL l pv ∧ l.Ok ∧ RdS 4 W pv (l.pl.map insL) ∧ l.pl.length + 1 ≤ Rows.uptoBulk d
set_option maxRecDepth 100000 in
set_option maxHeartbeats 2000000 in
theorem ln_cells {fuel : Nat} {l : List Value} {x : DataW H × List MemPlace} (hf : DataW.trod enc Try.prog W 0 (fun _ => true) true fuel 65 l = some x) : ∃ k : Ln, LnEl W k l x.1 := by
  obtain ⟨ys, kk, hkk, hdd, hlen, hyl, hfl⟩ := DataW.trod_struct Try.underlying65 hf
  have cT : Try.prog.cellsOf 65 = 46 := by kernel_rfl
  have c0 : Try.prog.cellsOf 56 = 1 := by kernel_rfl
  have c1 : Try.prog.cellsOf 59 = 12 := by kernel_rfl
  have c2 : Try.prog.cellsOf 61 = 15 := by kernel_rfl
  have c3 : Try.prog.cellsOf 63 = 5 := by kernel_rfl
  have c4 : Try.prog.cellsOf 55 = 6 := by kernel_rfl
  have c5 : Try.prog.cellsOf 4 = 1 := by kernel_rfl
  have c6 : Try.prog.cellsOf 3 = 1 := by kernel_rfl
  have c7 : Try.prog.cellsOf 2 = 1 := by kernel_rfl
  rw [cT] at hlen
  match ys, hyl with
  | [y0, y1, y2, y3, y4, y5, y6, y7, y8, y9, y10, y11], _ =>
    have t0 : DataW.trod enc Try.prog W 0 (fun _ => true) true kk 3 ((l.drop 0).take 1) = some y0 := by simpa [c6] using hfl 0 _ rfl
    have t1 : DataW.trod enc Try.prog W 0 (fun _ => true) true kk 55 ((l.drop 1).take 6) = some y1 := by simpa [c4] using hfl 1 _ rfl
    have t2 : DataW.trod enc Try.prog W 0 (fun _ => true) true kk 56 ((l.drop 7).take 1) = some y2 := by simpa [c0] using hfl 2 _ rfl
    have t3 : DataW.trod enc Try.prog W 0 (fun _ => true) true kk 59 ((l.drop 8).take 12) = some y3 := by simpa [c1] using hfl 3 _ rfl
    have t4 : DataW.trod enc Try.prog W 0 (fun _ => true) true kk 61 ((l.drop 20).take 15) = some y4 := by simpa [c2] using hfl 4 _ rfl
    have t5 : DataW.trod enc Try.prog W 0 (fun _ => true) true kk 3 ((l.drop 35).take 1) = some y5 := by simpa [c6] using hfl 5 _ rfl
    have t6 : DataW.trod enc Try.prog W 0 (fun _ => true) true kk 2 ((l.drop 36).take 1) = some y6 := by simpa [c7] using hfl 6 _ rfl
    have t7 : DataW.trod enc Try.prog W 0 (fun _ => true) true kk 2 ((l.drop 37).take 1) = some y7 := by simpa [c7] using hfl 7 _ rfl
    have t8 : DataW.trod enc Try.prog W 0 (fun _ => true) true kk 63 ((l.drop 38).take 5) = some y8 := by simpa [c3] using hfl 8 _ rfl
    have t9 : DataW.trod enc Try.prog W 0 (fun _ => true) true kk 4 ((l.drop 43).take 1) = some y9 := by simpa [c5] using hfl 9 _ rfl
    have t10 : DataW.trod enc Try.prog W 0 (fun _ => true) true kk 2 ((l.drop 44).take 1) = some y10 := by simpa [c7] using hfl 10 _ rfl
    have t11 : DataW.trod enc Try.prog W 0 (fun _ => true) true kk 3 ((l.drop 45).take 1) = some y11 := by simpa [c6] using hfl 11 _ rfl
    obtain ⟨v7, h7⟩ : ∃ v, (l.drop 7).take 1 = [v] := by rw [List.drop_eq_getElem_cons (by omega)]; exact ⟨_, rfl⟩
    rw [h7] at t2
    obtain ⟨n0, e0, _, f0⟩ := DataW.trod_int Try.underlying3 t0
    obtain ⟨tm, etm, ltm, htm⟩ := tm_cells t1
    obtain ⟨is, ris, ois, bis⟩ := plan_open t2
    obtain ⟨bk, ebk, lbk, hbk⟩ := bk_cells t3
    obtain ⟨st, su, cs, ecs, hst, lcs, hcs⟩ := cs_cells t4
    obtain ⟨n5, e5, _, f5⟩ := DataW.trod_int Try.underlying3 t5
    obtain ⟨n6, e6, _, f6⟩ := DataW.trod_int Try.underlying2 t6
    obtain ⟨n7, e7, _, f7⟩ := DataW.trod_int Try.underlying2 t7
    obtain ⟨la, ela, lla, hla⟩ := pa_cells t8
    obtain ⟨n9, e9, _⟩ := DataW.trod_bool Try.underlying4 t9
    obtain ⟨n10, e10, _, f10⟩ := DataW.trod_int Try.underlying2 t10
    obtain ⟨n11, e11, _, f11⟩ := DataW.trod_int Try.underlying3 t11
    have ch : ∀ a n, l.drop a = (l.drop a).take n ++ l.drop (a + n) := fun a n => by rw [← List.drop_drop, List.take_append_drop]
    have s0 := ch 0 1
    rw [e0] at s0
    have s1 := ch 1 6
    rw [etm] at s1
    have s2 := ch 7 1
    rw [h7] at s2
    have s3 := ch 8 12
    rw [ebk] at s3
    have s4 := ch 20 15
    rw [ecs] at s4
    have s5 := ch 35 1
    rw [e5] at s5
    have s6 := ch 36 1
    rw [e6] at s6
    have s7 := ch 37 1
    rw [e7] at s7
    have s8 := ch 38 5
    rw [ela] at s8
    have s9 := ch 43 1
    rw [e9] at s9
    have s10 := ch 44 1
    rw [e10] at s10
    have s11 := ch 45 1
    rw [e11] at s11
    have z : l.drop 46 = [] := List.drop_of_length_le (by omega)
    have ed : x.1 = DataW.agg ([y0, y1, y2, y3, y4, y5, y6, y7, y8, y9, y10, y11].map (·.1)) := congrArg Prod.fst hdd
    refine ⟨⟨n0, tm, is, bk, st, su, cs, [n5, n6, n7], la, n9, [n10, n11]⟩, v7, ?_, ⟨fun z hz => by simp at hz; rw [hz]; exact bounds f0, ltm, htm, ois, lbk, hbk, hst, lcs, hcs, rfl, fun z hz => by simp at hz; rcases hz with rfl | rfl | rfl; exact bounds f5; exact bounds f6; exact bounds f7, lla, hla, rfl, fun z hz => by simp at hz; rcases hz with rfl | rfl; exact bounds f10; exact bounds f11⟩, ris, ?_⟩
    · have e := s0.trans (congrArg _ (s1.trans (congrArg _ (s2.trans (congrArg _ (s3.trans (congrArg _ (s4.trans (congrArg _ (s5.trans (congrArg _ (s6.trans (congrArg _ (s7.trans (congrArg _ (s8.trans (congrArg _ (s9.trans (congrArg _ (s10.trans (congrArg _ (s11.trans (congrArg _ z)))))))))))))))))))))))
      rw [List.drop_zero] at e
      exact e
    · rw [ed]
      simp only [Rows.uptoBulk, List.map_cons, List.map_nil, Rows.uptoBulkAll]
      show is.length + 1 ≤ _
      omega
theorem sum_bulk {α : Type} {x0 : α} {wt : α → Nat} : ∀ {xs : List α} {ds : List (DataW H)}, ds.length = xs.length → (∀ i, i < xs.length → wt (xs.getD i x0) ≤ Rows.uptoBulk (ds.getD i .nil)) → (xs.map wt).sum ≤ Rows.uptoBulkAll ds
  | [], [], _, _ => by simp
  | x :: xs, d :: ds, hl, h => by
    have h0 := h 0 (by simp)
    have ih := sum_bulk (x0 := x0) (xs := xs) (ds := ds) (by simpa using hl) (fun i hi => by simpa using h (i + 1) (by simpa using hi))
    simp at h0
    simp only [List.map_cons, List.sum_cons, Rows.uptoBulkAll]
    omega
  | [], _ :: _, hl, _ => by simp at hl
  | _ :: _, [], hl, _ => by simp at hl
theorem loans_open {fuel : Nat} {v : Value} {y : DataW H × List MemPlace} (hf : DataW.trod enc Try.prog W 0 (fun _ => true) true fuel 29 [v] = some y) : ∃ ls : List Ln, RdLs W v ls ∧ (∀ l ∈ ls, l.Ok) ∧ (ls.map fun l => l.pl.length + 1).sum + 1 ≤ Rows.uptoBulk y.1 := by
  obtain ⟨xs, cs, ds, h1, h2, h3, h4, h5⟩ := structs_open (K := 46) ln0 (LnEl W) Try.underlying29 (by kernel_rfl) (by decide) (fun fuel l y h => ln_cells h) hf
  have key : ∀ i, ∃ pv, i < xs.length → cs.getD i [] = lnL (xs.getD i ln0) pv ∧ RdS 4 W pv ((xs.getD i ln0).pl.map insL) := fun i => by
    by_cases hi : i < xs.length
    · obtain ⟨pv, e, _, r, _⟩ := h4 i hi
      exact ⟨pv, fun _ => ⟨e, r⟩⟩
    · exact ⟨.nilFunc, fun h => absurd h hi⟩
  let f := fun i => Classical.choose (key i)
  have hf2 : ∀ i, i < xs.length → cs.getD i [] = lnL (xs.getD i ln0) (f i) ∧ RdS 4 W (f i) ((xs.getD i ln0).pl.map insL) := fun i => Classical.choose_spec (key i)
  have gx : ∀ i, i < xs.length → ((List.range xs.length).map f).getD i .nilFunc = f i := fun i hi => by simp [List.getD_eq_getElem?_getD, hi]
  have e : cs = List.zipWith lnL xs ((List.range xs.length).map f) := by
    apply List.ext_getElem (by simp [h1])
    intro i a1 a2
    have hi : i < xs.length := by omega
    have := (hf2 i hi).1
    rw [getD_at a1, getD_at hi] at this
    rw [this, List.getElem_zipWith]
    simp
  refine ⟨xs, ⟨(List.range xs.length).map f, by simp, by rw [← e]; exact h3, fun i hi => by rw [gx i hi]; exact (hf2 i hi).2⟩, all_of (x0 := ln0) (fun i hi => by obtain ⟨_, _, o, _⟩ := h4 i hi; exact o), ?_⟩
  have := sum_bulk (x0 := ln0) (wt := fun l => l.pl.length + 1) h2 (fun i hi => by obtain ⟨_, _, _, _, b⟩ := h4 i hi; exact b)
  omega
theorem lnB_len {l : Ln} (ok : l.Ok) (hp : l.pl.length ≤ 1048576) : (lnB l).length ≤ 460 * (l.pl.length + 1) := by
  have a0 := putI_len l.id (ok.id _ (by simp))
  have a1 := putFs_le ok.tm ok.tmL
  have a2 := putFs_le ok.bk ok.bkL
  have a3 := putI_len l.st (ok.st _ (by simp))
  have a4 := putFs_le ok.cs ok.csL
  have a5 := putFs_le ok.d3 ok.d3L
  have a6 := putFs_le ok.la ok.laL
  have a7 := putFs_le ok.c2 ok.c2L
  have b1 := putB_len l.su
  have b2 := putB_len l.hl
  have p1 := put_len10 l.pl.length (by omega)
  have p2 : ∀ is : List Ins, (∀ i ∈ is, i.Ok) → (is.flatMap insB).length ≤ 31 * is.length := by
    intro is
    induction is with
    | nil => intro _; simp
    | cons i r ih =>
      intro h
      have h1 := putFs_le (n := 3) (h i (by simp)).f rfl
      have h2 := putB_len i.mr
      have h3 := ih (fun j hj => h j (by simp [hj]))
      simp only [List.flatMap_cons, List.length_append, List.length_cons, insB]
      omega
  have p3 := p2 l.pl ok.pl
  unfold lnB csB plB
  simp only [List.length_append]
  omega
theorem poB_len {p : Po} (ok : p.Ok) (hs : (p.ls.map fun l => l.pl.length + 1).sum ≤ 1048576) (hn : p.ns.length ≤ 1048576) : PoB p := by
  have s1 : ∀ ls : List Ln, ls.length ≤ (ls.map fun l => l.pl.length + 1).sum := by
    intro ls
    induction ls with
    | nil => simp
    | cons l r ih => simp only [List.length_cons, List.map_cons, List.sum_cons]; omega
  have s2 : ∀ ls : List Ln, ∀ l ∈ ls, l.pl.length + 1 ≤ (ls.map fun l => l.pl.length + 1).sum := by
    intro ls
    induction ls with
    | nil => intro l h; cases h
    | cons x r ih =>
      intro l h
      simp only [List.map_cons, List.sum_cons]
      rcases List.mem_cons.1 h with rfl | h
      · omega
      · have := ih l h; omega
  have s3 : ∀ ls : List Ln, (∀ l ∈ ls, l.Ok) → (∀ l ∈ ls, l.pl.length ≤ 1048576) → (ls.flatMap lnB).length ≤ 460 * (ls.map fun l => l.pl.length + 1).sum := by
    intro ls
    induction ls with
    | nil => intro _ _; simp
    | cons x r ih =>
      intro h1 h2
      have a := lnB_len (h1 x (by simp)) (h2 x (by simp))
      have b := ih (fun l hl => h1 l (by simp [hl])) (fun l hl => h2 l (by simp [hl]))
      simp only [List.flatMap_cons, List.length_append, List.map_cons, List.sum_cons]
      omega
  have s4 : ∀ ns : List Nt, (∀ n ∈ ns, n.Ok) → (ns.flatMap owB).length ≤ 51 * ns.length := by
    intro ns
    induction ns with
    | nil => intro _; simp
    | cons x r ih =>
      intro h1
      have a := putFs_le (h1 x (by simp)).f (h1 x (by simp)).fL
      have a2 := putB_len x.ak
      have b := ih (fun l hl => h1 l (by simp [hl]))
      simp only [List.flatMap_cons, List.length_append, List.length_cons, owB, ntB]
      omega
  have b1 := s1 p.ls
  have b2 := s2 p.ls
  have b3 := s3 p.ls ok.ls (fun l hl => by have := b2 l hl; omega)
  have b4 := s4 p.ns ok.ns
  have a0 := putI_len p.td (ok.td _ (by simp))
  have p1 := put_len10 p.ls.length (by omega)
  have p2 := put_len10 p.ns.length (by omega)
  refine ⟨by omega, by omega, fun l hl => by have := b2 l hl; omega, ?_⟩
  unfold poB
  simp only [List.length_append]
  omega
set_option maxRecDepth 100000 in
theorem po_open {base : Nat} {v : Value} {d : DataW H} {ps : List MemPlace}
    (hval : Value.okWide Try.prog W .any base 32 v) (hd : DataW.Trod enc Try.prog W 0 (fun _ => true) true 32 v d ps) (hk : Rows.uptoBulk d ≤ 1048576) :
    ∃ (p : Po) (vl vn : Value), v = .agg #[.int .i64 p.td, vl, vn] ∧ p.Ok ∧ PoB p ∧ RdPo W vl vn p := by
  have HK : Hid (Rows.uptoBulk d ≤ 1048576) := hk
  clear hk
  obtain ⟨cs, rfl, hs⟩ := okWide_struct Try.underlying32 hval
  obtain ⟨fuel, hf⟩ := hd
  obtain ⟨ys, kk, hkk, hdd, hlen, hyl, hfl⟩ := DataW.trod_struct Try.underlying32 hf
  have cI : Try.prog.cellsOf 3 = 1 := by kernel_rfl
  have cL : Try.prog.cellsOf 29 = 1 := by kernel_rfl
  have cN : Try.prog.cellsOf 30 = 1 := by kernel_rfl
  have cT : Try.prog.cellsOf 32 = 3 := by kernel_rfl
  rw [cT] at hs
  obtain ⟨l⟩ := cs
  simp at hs
  simp only [Value.cells] at hfl
  match ys, hyl, l, hs with
  | [y0, y1, y2], _, [v0, v1, v2], _ =>
    have t0 := hfl 0 _ rfl
    have t1 := hfl 1 _ rfl
    have t2 := hfl 2 _ rfl
    simp [cI, cL, cN] at t0 t1 t2
    have ed := (Prod.mk.inj hdd).1
    obtain ⟨n0, e0, _, f0⟩ := DataW.trod_int Try.underlying3 t0
    obtain ⟨ls, rl, ol, bl⟩ := loans_open t1
    obtain ⟨ns, rn, on, bn⟩ := notes_open t2
    simp at e0
    subst e0
    have hb := HK.out
    rw [ed] at hb
    simp only [Rows.uptoBulk, List.map_cons, List.map_nil, Rows.uptoBulkAll] at hb
    have ok : (⟨n0, ls, ns⟩ : Po).Ok := ⟨fun z hz => by simp at hz; rw [hz]; exact bounds f0, ol, on⟩
    exact ⟨⟨n0, ls, ns⟩, v1, v2, rfl, ok, poB_len ok (by show (ls.map _).sum ≤ _; omega) (by show ns.length ≤ _; omega), ⟨rl, rn⟩⟩
set_option maxRecDepth 100000 in
theorem nt_open {base : Nat} {v : Value} {d : DataW H} {ps : List MemPlace}
    (hval : Value.okWide Try.prog W .any base 28 v) (hd : DataW.Trod enc Try.prog W 0 (fun _ => true) true 28 v d ps) : ∃ n : Nt, v = .agg (ntL n).toArray ∧ n.Ok := by
  obtain ⟨cs, rfl, hs⟩ := okWide_struct Try.underlying28 hval
  obtain ⟨fuel, hf⟩ := hd
  obtain ⟨l⟩ := cs
  simp only [Value.cells] at hf
  obtain ⟨n, e, ok⟩ := nt_cells hf
  exact ⟨n, by rw [← e], ok⟩
end
end Go.Proofs.Ytdbjjeaflfoppaa
