/-
  Ours: the law's sameState (gen_wst7.py: THE SEAT's OWN NUMBERS).
-/
import Derived.Test.YtdbjjeaflfoppaaWirStS2
import Derived.Test.YtdbjjeaflfoppaaWirStT2
namespace Go.Proofs.Ytdbjjeaflfoppaa
open Go.RowKit WsM

def nt0 : Nt := ⟨[], false⟩
theorem ext_D {α : Type} {d : α} {xs ys : List α} {L : Nat} (h1 : xs.length = L) (h2 : ys.length = L) (h : ∀ j, j < L → xs.getD j d = ys.getD j d) : xs = ys := by
  apply List.ext_getElem (by omega)
  intro i h3 h4
  have := h i (by omega)
  rwa [getD_at h3, getD_at h4] at this
theorem RdLs.at {w : World} {a : Option Addr} {n c : Nat} {ls : List Ln} (h : RdLs w (.slice a n c) ls) (i : Nat) (hi : i < ls.length) : ∃ g o pv, a = some ⟨g, o, none⟩ ∧ w.rangeAt g (o + i * 46) (lnL (ls.getD i ln0) pv) ∧ RdS 4 w pv ((ls.getD i ln0).pl.map insL) := by
  obtain ⟨pvs, q1, q2, q3⟩ := h
  obtain ⟨ao', cap', e, _, _, H⟩ := q2
  injection e with e1 e2 e3
  subst e1
  obtain ⟨g, o, e, _, r⟩ := H i (by rw [zip_len q1]; omega)
  rw [getD_zip (by omega) q1] at r
  exact ⟨g, o, _, e, r, q3 i (by omega)⟩
theorem RdS.at {K : Nat} {w : World} {a : Option Addr} {n c : Nat} {cs : List (List Value)} (h : RdS K w (.slice a n c) cs) (i : Nat) (hi : i < cs.length) : ∃ g o, a = some ⟨g, o, none⟩ ∧ w.rangeAt g (o + i * K) (cs.getD i []) := by
  obtain ⟨ao', cap', e, _, _, H⟩ := h
  injection e with e1 e2 e3
  subst e1
  obtain ⟨g, o, e, _, r⟩ := H i hi
  exact ⟨g, o, e, r⟩
theorem range_up {w w' : World} {g o : Nat} {C : List Value} (h : w.rangeAt g o C) (hC : 0 < C.length) (hb : Below w.heap.size w w') : w'.rangeAt g o C := by
  have lt : g < w.heap.size := by
    have := h 0 _ (List.getElem?_eq_getElem hC)
    exact World.block_lt_of_cell? w _ this
  exact fun j u hj => (hb.cell (p := ⟨g, o + j, none⟩) lt).trans (h j u hj)
set_option maxRecDepth 40000 in
set_option maxHeartbeats 4000000 in
theorem sameState_at (p q : Po) (ok : p.Ok) (ok' : q.Ok) (vl vn vl' vn' : Value) (w : World) (hl : p.ls.length ≤ 1000000000000) (hm : p.ns.length ≤ 1000000000000) (hk : ∀ l ∈ p.ls, l.pl.length ≤ 1000000000000) (h : RdPo w vl vn p) (h' : RdPo w vl' vn' q) :
    Calls Try.prog 15 #[.agg #[.int .i64 p.td, vl, vn], .agg #[.int .i64 q.td, vl', vn']] w fun e w' => AnsB (p = q) e ∧ Below w.heap.size w w' := by
  obtain ⟨td, ls, ns⟩ := p
  obtain ⟨td', ls', ns'⟩ := q
  have h1 : RdLs w vl ls := h.ls
  have h2 : RdS 6 w vn (ns.map ntL) := h.ns
  have h1' : RdLs w vl' ls' := h'.ls
  have h2' : RdS 6 w vn' (ns'.map ntL) := h'.ns
  have ol : ∀ l ∈ ls, l.Ok := ok.ls
  have ol' : ∀ l ∈ ls', l.Ok := ok'.ls
  have on : ∀ n ∈ ns, n.Ok := ok.ns
  have on' : ∀ n ∈ ns', n.Ok := ok'.ns
  simp only at hl hm hk ⊢
  clear h h' ok ok'
  obtain ⟨PQ, HPQ⟩ : ∃ PQ : Prop, PQ = ((⟨td, ls, ns⟩ : Po) = ⟨td', ls', ns'⟩) := ⟨_, rfl⟩
  rw [← HPQ]
  have HP : Hid (PQ ↔ td = td' ∧ ls = ls' ∧ ns = ns') := by
    show _ ↔ _
    rw [HPQ]
    exact ⟨fun e => by injection e with a b c; exact ⟨a, b, c⟩, fun ⟨a, b, c⟩ => by rw [a, b, c]⟩
  clear HPQ
  obtain ⟨na, nc, rfl, -, -⟩ := h2.len
  obtain ⟨na', nc', rfl, -, -⟩ := h2'.len
  obtain ⟨la, lc, rfl⟩ : ∃ a c, vl = .slice a ls.length c := by
    obtain ⟨pvs, q1, q2, -⟩ := h1
    obtain ⟨a, c, e, -, -⟩ := q2.len
    rw [zip_len q1] at e
    exact ⟨a, c, e⟩
  obtain ⟨la', lc', rfl⟩ : ∃ a c, vl' = .slice a ls'.length c := by
    obtain ⟨pvs, q1, q2, -⟩ := h1'
    obtain ⟨a, c, e, -, -⟩ := q2.len
    rw [zip_len q1] at e
    exact ⟨a, c, e⟩
  simp only [List.length_map] at h2 h2' ⊢
  obtain ⟨L, hL⟩ : ∃ L, ls.length = L := ⟨_, rfl⟩
  obtain ⟨L', hL'⟩ : ∃ L, ls'.length = L := ⟨_, rfl⟩
  obtain ⟨M, hM⟩ : ∃ L, ns.length = L := ⟨_, rfl⟩
  obtain ⟨M', hM'⟩ : ∃ L, ns'.length = L := ⟨_, rfl⟩
  rw [hL] at h1 hl ⊢
  rw [hM] at h2 hm ⊢
  rw [hL'] at h1' ⊢
  rw [hM'] at h2' ⊢
  have LE : Hid (∀ i, i < L → ∃ g o pv, la = some ⟨g, o, none⟩ ∧ w.rangeAt g (o + i * 46) (lnL (ls.getD i ln0) pv) ∧ RdS 4 w pv ((ls.getD i ln0).pl.map insL)) := fun i hi => h1.at i (by omega)
  have LE' : Hid (∀ i, i < L' → ∃ g o pv, la' = some ⟨g, o, none⟩ ∧ w.rangeAt g (o + i * 46) (lnL (ls'.getD i ln0) pv) ∧ RdS 4 w pv ((ls'.getD i ln0).pl.map insL)) := fun i hi => h1'.at i (by omega)
  have NE : Hid (∀ i, i < M → ∃ g o, na = some ⟨g, o, none⟩ ∧ w.rangeAt g (o + i * 6) (ntL (ns.getD i nt0))) := fun i hi => by
    have := h2.at i (by rw [List.length_map]; omega)
    rwa [getD_map (d := nt0) (by omega)] at this
  have NE' : Hid (∀ i, i < M' → ∃ g o, na' = some ⟨g, o, none⟩ ∧ w.rangeAt g (o + i * 6) (ntL (ns'.getD i nt0))) := fun i hi => by
    have := h2'.at i (by rw [List.length_map]; omega)
    rwa [getD_map (d := nt0) (by omega)] at this
  have SL : Hid (∀ i pv qv W, i < L → i < L' → RdS 4 w pv ((ls.getD i ln0).pl.map insL) → RdS 4 w qv ((ls'.getD i ln0).pl.map insL) → Below w.heap.size w W → Calls Try.prog 28 #[.agg (lnL (ls.getD i ln0) pv).toArray, .agg (lnL (ls'.getD i ln0) qv).toArray] W fun e w' => AnsB (ls.getD i ln0 = ls'.getD i ln0) e ∧ Below W.heap.size W w') := fun i pv qv W a1 a2 r1 r2 hb => sameLoan_at _ _ (ol _ (getD_mem (by omega))) (ol' _ (getD_mem (by omega))) pv qv W (hk _ (getD_mem (by omega))) (r1.later hb) (r2.later hb)
  have NQ : Hid (∀ i, i < M → i < M' → ∃ r : Bool, EqR 28 (ntL (ns.getD i nt0)) (ntL (ns'.getD i nt0)) r ∧ (r = true ↔ ns.getD i nt0 = ns'.getD i nt0)) := fun i a1 a2 => eqNt _ _ (on _ (getD_mem (by omega))) (on' _ (getD_mem (by omega)))
  have HLL : Hid (ls.length = L ∧ ls'.length = L' ∧ ns.length = M ∧ ns'.length = M') := ⟨hL, hL', hM, hM'⟩
  have hu := Try.underlying65
  have huN := Try.underlying28
  have hgd : Try.prog.eqGuardType Try.prog.depth 28 = false := by kernel_rfl
  have BX : Hid (Blk w.heap.size 32 [.int .i64 td, .slice la L lc, .slice na M nc] ((w.alloc (.cells #[.int .i64 td, .slice la L lc, .slice na M nc] 32)).alloc (.cells #[.int .i64 td', .slice la' L' lc', .slice na' M' nc'] 32))) := (Blk.new 32 _ w).old _
  have BY : Hid (Blk (w.heap.size + 1) 32 [.int .i64 td', .slice la' L' lc', .slice na' M' nc'] ((w.alloc (.cells #[.int .i64 td, .slice la L lc, .slice na M nc] 32)).alloc (.cells #[.int .i64 td', .slice la' L' lc', .slice na' M' nc'] 32))) := Blk.new2 32 _ w _
  have BW : Hid (Below w.heap.size w ((w.alloc (.cells #[.int .i64 td, .slice la L lc, .slice na M nc] 32)).alloc (.cells #[.int .i64 td', .slice la' L' lc', .slice na' M' nc'] 32))) := below_trans (below_alloc _ _) (below_alloc _ _)
  clear h1 h2 h1' h2' ol ol' on on' hk hL hL' hM hM'
  go_enter Try.func15, Try.ntmps15
  go_upto_region 1 with fail
  generalize ((w.alloc (.cells #[.int .i64 td, .slice la L lc, .slice na M nc] 32)).alloc (.cells #[.int .i64 td', .slice la' L' lc', .slice na' M' nc'] 32)) = W0 at *
  obtain ⟨X, hX⟩ : ∃ X, w.heap.size = X := ⟨_, rfl⟩
  rw [hX] at BX BY ⊢
  have HXX : Hid (w.heap.size = X) := hX
  clear hX
  have c0 := BX.out.cell 0 _ rfl
  have c1 := BX.out.cell 1 _ rfl
  have c2 := BX.out.cell 2 _ rfl
  have d0 := BY.out.cell 0 _ rfl
  have d1 := BY.out.cell 1 _ rfl
  have d2 := BY.out.cell 2 _ rfl
  by_cases et : td = td'
  case neg =>
    have a0 : (td != td') = true := by simpa using et
    have HN : Hid (¬ PQ) := fun e => et (HP.out.1 e).1
    go_wp2_with fail
    go_ret
    exact ⟨AnsB.no HN.out, BW.out⟩
  subst et
  have a0 : (td != td) = false := by simp
  by_cases eL : (L : Int) = (L' : Int)
  case neg =>
    have a1 : ((L : Int) != (L' : Int)) = true := by simpa using eL
    have HN : Hid (¬ PQ) := fun e => eL (by rw [← HLL.out.1, ← HLL.out.2.1, (HP.out.1 e).2.1])
    go_wp2_with fail
    go_ret
    exact ⟨AnsB.no HN.out, BW.out⟩
  obtain rfl : L = L' := by omega
  have a1 : ((L : Int) != (L : Int)) = false := by simp
  by_cases eM : (M : Int) = (M' : Int)
  case neg =>
    have a2 : ((M : Int) != (M' : Int)) = true := by simpa using eM
    have HN : Hid (¬ PQ) := fun e => eM (by rw [← HLL.out.2.2.1, ← HLL.out.2.2.2, (HP.out.1 e).2.2])
    go_wp2_with fail
    go_ret
    exact ⟨AnsB.no HN.out, BW.out⟩
  obtain rfl : M = M' := by omega
  have a2 : ((M : Int) != (M : Int)) = false := by simp
  clear eL eM
  go_wp2_with fail
  go_loopw [5] (fun vk wr => ∃ (k : Nat), vk = .int .i64 (k : Int) ∧ k ≤ L ∧ Hid (∀ j, j < k → ls.getD j ln0 = ls'.getD j ln0) ∧ Hid (Blk X 32 [.int .i64 td, .slice la L lc, .slice na M nc] wr) ∧ Hid (Blk (X + 1) 32 [.int .i64 td, .slice la' L lc', .slice na' M nc'] wr) ∧ Hid (Below w.heap.size w wr)) (fun vk _ => L - (intOf vk).toNat)
  case atStart => exact ⟨0, rfl, by omega, (fun j hj => by omega), BX.out, BY.out, BW.out⟩
  case round =>
    clear BX BY BW c0 c1 c2 d0 d1 d2 a0 a1 a2
    obtain ⟨k, rfl, hk, EQ, BX, BY, BW⟩ := hrel
    have c1 := BX.out.cell 1 _ rfl
    have d1 := BY.out.cell 1 _ rfl
    by_cases hlt : (k : Int) < (L : Int)
    · obtain ⟨g, o, pv, rfl, rg, rp⟩ := LE.out k (by omega)
      obtain ⟨g', o', qv, rfl, rg', rp'⟩ := LE'.out k (by omega)
      have LR : Hid (∀ w', Below w.heap.size w w' → w'.rangeAt g (o + k * 46) (lnL (ls.getD k ln0) pv)) := fun w' hb => range_up rg (by show 0 < 46; decide) hb
      have LR' : Hid (∀ w', Below w.heap.size w w' → w'.rangeAt g' (o' + k * 46) (lnL (ls'.getD k ln0) qv)) := fun w' hb => range_up rg' (by show 0 < 46; decide) hb
      have HC : Hid ((lnL (ls.getD k ln0) pv).length = 46 ∧ ∀ u ∈ lnL (ls.getD k ln0) pv, u.oneCell' = true) := lnL_one rp.one
      have HC' : Hid ((lnL (ls'.getD k ln0) qv).length = 46 ∧ ∀ u ∈ lnL (ls'.getD k ln0) qv, u.oneCell' = true) := lnL_one rp'.one
      have SC0 : Hid (∀ W, Below w.heap.size w W → Calls Try.prog 28 #[.agg (lnL (ls.getD k ln0) pv).toArray, .agg (lnL (ls'.getD k ln0) qv).toArray] W fun e w' => AnsB (ls.getD k ln0 = ls'.getD k ln0) e ∧ Below W.heap.size W w') := fun W hb => SL.out k pv qv W (by omega) (by omega) rp rp' hb
      obtain ⟨C, hC⟩ : ∃ C, C = lnL (ls.getD k ln0) pv := ⟨_, rfl⟩
      obtain ⟨C', hC'⟩ : ∃ C, C = lnL (ls'.getD k ln0) qv := ⟨_, rfl⟩
      rw [← hC] at LR HC SC0
      rw [← hC'] at LR' HC' SC0
      clear hC hC' rg rg' rp rp' LE LE' SL NE NE' NQ
      by_cases hq : ls.getD k ln0 = ls'.getD k ln0
      · have HQ : Hid (ls.getD k ln0 = ls'.getD k ln0) := hq
        have SC : Hid (∀ W, Below w.heap.size w W → Calls Try.prog 28 #[.agg C.toArray, .agg C'.toArray] W fun e w' => e = .returned (.bool true) ∧ Below W.heap.size W w') := fun W hb => (SC0.out W hb).mono fun e w' ⟨⟨b, h1, h2⟩, h3⟩ => ⟨by rw [h1, h2.2 HQ.out], h3⟩
        clear SC0 hq
        go_upto_region 6 with fail
        refine wp_region_held_drew (S := fun w' => Blk X 32 [.int .i64 td, .slice (some ⟨g, o, none⟩) L lc, .slice na M nc] w' ∧ Blk (X + 1) 32 [.int .i64 td, .slice (some ⟨g', o', none⟩) L lc', .slice na' M nc'] w' ∧ Below w.heap.size w w') (by kernel_rfl) ⟨BX.out.drewN 1, BY.out.drewN 1, below_drewN BW.out 1⟩ (fun hH => ?_)
        refine wpAnyH_take (i := 0) (oi := { dst := some 37, op := Op.fieldAddr 32 (Operand.tmp 2) 1, type := 0, pos := "law.go:168", after := #[], guard := none }) (v := .pointer (some ⟨X, 1, none⟩)) rfl (by kernel_rfl) (by kernel_rfl) (by kernel_rfl) (fun _ _ _ h => h) (Or.inl ⟨by rfl, fun w' h => by go_simp⟩) hH ?_
        try simp only [Act.put, List.setIfInBounds_toArray, List.set_cons_zero, List.set_cons_succ]
        refine wpAnyH_take (i := 1) (oi := { dst := some 38, op := Op.load 29 (Operand.tmp 37), type := 29, pos := "law.go:168", after := #[{ on := 0, ground := Ground.data }], guard := none }) (v := .slice (some ⟨g, o, none⟩) L lc) rfl (by kernel_rfl) (by kernel_rfl) (by kernel_rfl) (fun _ _ _ h => h) (Or.inl ⟨by rfl, fun w' h => by have q := Blk.cell h.1 1 _ rfl; go_simp⟩) hH ?_
        try simp only [Act.put, List.setIfInBounds_toArray, List.set_cons_zero, List.set_cons_succ]
        refine wpAnyH_take (i := 2) (oi := { dst := some 39, op := Op.move (Operand.tmp 5), type := 3, pos := "law.go:168", after := #[], guard := none }) (v := .int .i64 (k : Int)) rfl (by kernel_rfl) (by kernel_rfl) (by kernel_rfl) (fun _ _ _ h => h) (Or.inl ⟨by rfl, fun w' h => by go_simp⟩) hH ?_
        try simp only [Act.put, List.setIfInBounds_toArray, List.set_cons_zero, List.set_cons_succ]
        refine wpAnyH_take (i := 3) (oi := { dst := some 40, op := Op.indexAddr 29 (Operand.tmp 38) (Operand.tmp 39), type := 0, pos := "law.go:168", after := #[{ on := 1, ground := Ground.data }, { on := 2, ground := Ground.data }], guard := none }) (v := .pointer (some ⟨g, o + k * 46, none⟩)) rfl (by kernel_rfl) (by kernel_rfl) (by kernel_rfl) (fun _ _ _ h => h) (Or.inl ⟨by rfl, fun w' h => by go_simp⟩) hH ?_
        try simp only [Act.put, List.setIfInBounds_toArray, List.set_cons_zero, List.set_cons_succ]
        refine wpAnyH_take (i := 4) (oi := { dst := some 41, op := Op.load 65 (Operand.tmp 40), type := 65, pos := "law.go:168", after := #[{ on := 3, ground := Ground.data }], guard := none }) (v := .agg (C).toArray) rfl (by kernel_rfl) (by kernel_rfl) (by kernel_rfl) (fun _ _ _ h => h) (yieldsIf_load_mid (by rfl) _ _ rfl g (o + k * 46) rfl (C) _ (fun w' h => LR.out w' h.2.2) hu rfl (szLn HC.out.1)) hH ?_
        try simp only [Act.put, List.setIfInBounds_toArray, List.set_cons_zero, List.set_cons_succ]
        refine wpAnyH_take (i := 5) (oi := { dst := some 42, op := Op.fieldAddr 32 (Operand.tmp 3) 1, type := 0, pos := "law.go:168", after := #[], guard := none }) (v := .pointer (some ⟨X + 1, 1, none⟩)) rfl (by kernel_rfl) (by kernel_rfl) (by kernel_rfl) (fun _ _ _ h => h) (Or.inl ⟨by rfl, fun w' h => by go_simp⟩) hH ?_
        try simp only [Act.put, List.setIfInBounds_toArray, List.set_cons_zero, List.set_cons_succ]
        refine wpAnyH_take (i := 6) (oi := { dst := some 43, op := Op.load 29 (Operand.tmp 42), type := 29, pos := "law.go:168", after := #[{ on := 5, ground := Ground.data }], guard := none }) (v := .slice (some ⟨g', o', none⟩) L lc') rfl (by kernel_rfl) (by kernel_rfl) (by kernel_rfl) (fun _ _ _ h => h) (Or.inl ⟨by rfl, fun w' h => by have q := Blk.cell h.2.1 1 _ rfl; go_simp⟩) hH ?_
        try simp only [Act.put, List.setIfInBounds_toArray, List.set_cons_zero, List.set_cons_succ]
        refine wpAnyH_take (i := 7) (oi := { dst := some 44, op := Op.move (Operand.tmp 5), type := 3, pos := "law.go:168", after := #[], guard := none }) (v := .int .i64 (k : Int)) rfl (by kernel_rfl) (by kernel_rfl) (by kernel_rfl) (fun _ _ _ h => h) (Or.inl ⟨by rfl, fun w' h => by go_simp⟩) hH ?_
        try simp only [Act.put, List.setIfInBounds_toArray, List.set_cons_zero, List.set_cons_succ]
        refine wpAnyH_take (i := 8) (oi := { dst := some 45, op := Op.indexAddr 29 (Operand.tmp 43) (Operand.tmp 44), type := 0, pos := "law.go:168", after := #[{ on := 6, ground := Ground.data }, { on := 7, ground := Ground.data }], guard := none }) (v := .pointer (some ⟨g', o' + k * 46, none⟩)) rfl (by kernel_rfl) (by kernel_rfl) (by kernel_rfl) (fun _ _ _ h => h) (Or.inl ⟨by rfl, fun w' h => by go_simp⟩) hH ?_
        try simp only [Act.put, List.setIfInBounds_toArray, List.set_cons_zero, List.set_cons_succ]
        refine wpAnyH_take (i := 9) (oi := { dst := some 46, op := Op.load 65 (Operand.tmp 45), type := 65, pos := "law.go:168", after := #[{ on := 8, ground := Ground.data }], guard := none }) (v := .agg (C').toArray) rfl (by kernel_rfl) (by kernel_rfl) (by kernel_rfl) (fun _ _ _ h => h) (yieldsIf_load_mid (by rfl) _ _ rfl g' (o' + k * 46) rfl (C') _ (fun w' h => LR'.out w' h.2.2) hu rfl (szLn HC'.out.1)) hH ?_
        try simp only [Act.put, List.setIfInBounds_toArray, List.set_cons_zero, List.set_cons_succ]
        refine wpAnyH_ready (rs := [10]) (by kernel_rfl) (by simp) ?_
        refine AllReadyH.cons (o := { dst := some 47, op := Op.call { callee := Callee.value (Operand.func 28), args := #[Operand.tmp 41, Operand.tmp 46], argTypes := #[65, 65] }, type := 4, pos := "law.go:168", after := #[{ on := 4, ground := Ground.data }, { on := 9, ground := Ground.data }], guard := none }) rfl (fun K hK => ?_) AllReadyH.nil
        go_simp
        refine (SC.out _ hH.2.2).mono ?_
        rintro e w3 ⟨rfl, bX⟩
        have BX3 : Hid (Blk X 32 [.int .i64 td, .slice (some ⟨g, o, none⟩) L lc, .slice na M nc] w3) := hH.1.below bX
        have BY3 : Hid (Blk (X + 1) 32 [.int .i64 td, .slice (some ⟨g', o', none⟩) L lc', .slice na' M nc'] w3) := hH.2.1.below bX
        have BW3 : Hid (Below w.heap.size w w3) := below_trans hH.2.2 bX
        refine hK.out _ _ ⟨BX3.out, BY3.out, BW3.out⟩ (fun hH => ?_)
        try simp only [List.setIfInBounds_toArray, List.set_cons_zero, List.set_cons_succ]
        refine wpAnyH_take (i := 11) (oi := { dst := some 48, op := Op.unOp UnOp.not 4 (Operand.tmp 47), type := 4, pos := "law.go:168", after := #[{ on := 10, ground := Ground.data }], guard := none }) (v := .bool false) rfl (by kernel_rfl) (by kernel_rfl) (by kernel_rfl) (fun _ _ _ h => h) (Or.inl ⟨by rfl, fun w' h => by go_simp⟩) hH ?_
        try simp only [Act.put, List.setIfInBounds_toArray, List.set_cons_zero, List.set_cons_succ]
        refine wpAnyH_done (by kernel_rfl) ?_ _
        clear hH hK bX
        go_wp2_with fail
        go_roundw
        case rel => exact ⟨k + 1, by go_num, by omega, (fun j hj => by
            by_cases e : j = k
            · subst e; exact HQ.out
            · exact EQ.out j (by omega)), BX3.out, BY3.out, BW3.out⟩
        case measure => simp [intOf]; omega
      · have HQ : Hid (¬ ls.getD k ln0 = ls'.getD k ln0) := hq
        have SC : Hid (∀ W, Below w.heap.size w W → Calls Try.prog 28 #[.agg C.toArray, .agg C'.toArray] W fun e w' => e = .returned (.bool false) ∧ Below W.heap.size W w') := fun W hb => (SC0.out W hb).mono fun e w' ⟨⟨b, h1, h2⟩, h3⟩ => ⟨by rw [h1]; cases b; rfl; exact absurd (h2.1 rfl) HQ.out, h3⟩
        clear SC0 hq
        go_upto_region 6 with fail
        refine wp_region_held_drew (S := fun w' => Blk X 32 [.int .i64 td, .slice (some ⟨g, o, none⟩) L lc, .slice na M nc] w' ∧ Blk (X + 1) 32 [.int .i64 td, .slice (some ⟨g', o', none⟩) L lc', .slice na' M nc'] w' ∧ Below w.heap.size w w') (by kernel_rfl) ⟨BX.out.drewN 1, BY.out.drewN 1, below_drewN BW.out 1⟩ (fun hH => ?_)
        refine wpAnyH_take (i := 0) (oi := { dst := some 37, op := Op.fieldAddr 32 (Operand.tmp 2) 1, type := 0, pos := "law.go:168", after := #[], guard := none }) (v := .pointer (some ⟨X, 1, none⟩)) rfl (by kernel_rfl) (by kernel_rfl) (by kernel_rfl) (fun _ _ _ h => h) (Or.inl ⟨by rfl, fun w' h => by go_simp⟩) hH ?_
        try simp only [Act.put, List.setIfInBounds_toArray, List.set_cons_zero, List.set_cons_succ]
        refine wpAnyH_take (i := 1) (oi := { dst := some 38, op := Op.load 29 (Operand.tmp 37), type := 29, pos := "law.go:168", after := #[{ on := 0, ground := Ground.data }], guard := none }) (v := .slice (some ⟨g, o, none⟩) L lc) rfl (by kernel_rfl) (by kernel_rfl) (by kernel_rfl) (fun _ _ _ h => h) (Or.inl ⟨by rfl, fun w' h => by have q := Blk.cell h.1 1 _ rfl; go_simp⟩) hH ?_
        try simp only [Act.put, List.setIfInBounds_toArray, List.set_cons_zero, List.set_cons_succ]
        refine wpAnyH_take (i := 2) (oi := { dst := some 39, op := Op.move (Operand.tmp 5), type := 3, pos := "law.go:168", after := #[], guard := none }) (v := .int .i64 (k : Int)) rfl (by kernel_rfl) (by kernel_rfl) (by kernel_rfl) (fun _ _ _ h => h) (Or.inl ⟨by rfl, fun w' h => by go_simp⟩) hH ?_
        try simp only [Act.put, List.setIfInBounds_toArray, List.set_cons_zero, List.set_cons_succ]
        refine wpAnyH_take (i := 3) (oi := { dst := some 40, op := Op.indexAddr 29 (Operand.tmp 38) (Operand.tmp 39), type := 0, pos := "law.go:168", after := #[{ on := 1, ground := Ground.data }, { on := 2, ground := Ground.data }], guard := none }) (v := .pointer (some ⟨g, o + k * 46, none⟩)) rfl (by kernel_rfl) (by kernel_rfl) (by kernel_rfl) (fun _ _ _ h => h) (Or.inl ⟨by rfl, fun w' h => by go_simp⟩) hH ?_
        try simp only [Act.put, List.setIfInBounds_toArray, List.set_cons_zero, List.set_cons_succ]
        refine wpAnyH_take (i := 4) (oi := { dst := some 41, op := Op.load 65 (Operand.tmp 40), type := 65, pos := "law.go:168", after := #[{ on := 3, ground := Ground.data }], guard := none }) (v := .agg (C).toArray) rfl (by kernel_rfl) (by kernel_rfl) (by kernel_rfl) (fun _ _ _ h => h) (yieldsIf_load_mid (by rfl) _ _ rfl g (o + k * 46) rfl (C) _ (fun w' h => LR.out w' h.2.2) hu rfl (szLn HC.out.1)) hH ?_
        try simp only [Act.put, List.setIfInBounds_toArray, List.set_cons_zero, List.set_cons_succ]
        refine wpAnyH_take (i := 5) (oi := { dst := some 42, op := Op.fieldAddr 32 (Operand.tmp 3) 1, type := 0, pos := "law.go:168", after := #[], guard := none }) (v := .pointer (some ⟨X + 1, 1, none⟩)) rfl (by kernel_rfl) (by kernel_rfl) (by kernel_rfl) (fun _ _ _ h => h) (Or.inl ⟨by rfl, fun w' h => by go_simp⟩) hH ?_
        try simp only [Act.put, List.setIfInBounds_toArray, List.set_cons_zero, List.set_cons_succ]
        refine wpAnyH_take (i := 6) (oi := { dst := some 43, op := Op.load 29 (Operand.tmp 42), type := 29, pos := "law.go:168", after := #[{ on := 5, ground := Ground.data }], guard := none }) (v := .slice (some ⟨g', o', none⟩) L lc') rfl (by kernel_rfl) (by kernel_rfl) (by kernel_rfl) (fun _ _ _ h => h) (Or.inl ⟨by rfl, fun w' h => by have q := Blk.cell h.2.1 1 _ rfl; go_simp⟩) hH ?_
        try simp only [Act.put, List.setIfInBounds_toArray, List.set_cons_zero, List.set_cons_succ]
        refine wpAnyH_take (i := 7) (oi := { dst := some 44, op := Op.move (Operand.tmp 5), type := 3, pos := "law.go:168", after := #[], guard := none }) (v := .int .i64 (k : Int)) rfl (by kernel_rfl) (by kernel_rfl) (by kernel_rfl) (fun _ _ _ h => h) (Or.inl ⟨by rfl, fun w' h => by go_simp⟩) hH ?_
        try simp only [Act.put, List.setIfInBounds_toArray, List.set_cons_zero, List.set_cons_succ]
        refine wpAnyH_take (i := 8) (oi := { dst := some 45, op := Op.indexAddr 29 (Operand.tmp 43) (Operand.tmp 44), type := 0, pos := "law.go:168", after := #[{ on := 6, ground := Ground.data }, { on := 7, ground := Ground.data }], guard := none }) (v := .pointer (some ⟨g', o' + k * 46, none⟩)) rfl (by kernel_rfl) (by kernel_rfl) (by kernel_rfl) (fun _ _ _ h => h) (Or.inl ⟨by rfl, fun w' h => by go_simp⟩) hH ?_
        try simp only [Act.put, List.setIfInBounds_toArray, List.set_cons_zero, List.set_cons_succ]
        refine wpAnyH_take (i := 9) (oi := { dst := some 46, op := Op.load 65 (Operand.tmp 45), type := 65, pos := "law.go:168", after := #[{ on := 8, ground := Ground.data }], guard := none }) (v := .agg (C').toArray) rfl (by kernel_rfl) (by kernel_rfl) (by kernel_rfl) (fun _ _ _ h => h) (yieldsIf_load_mid (by rfl) _ _ rfl g' (o' + k * 46) rfl (C') _ (fun w' h => LR'.out w' h.2.2) hu rfl (szLn HC'.out.1)) hH ?_
        try simp only [Act.put, List.setIfInBounds_toArray, List.set_cons_zero, List.set_cons_succ]
        refine wpAnyH_ready (rs := [10]) (by kernel_rfl) (by simp) ?_
        refine AllReadyH.cons (o := { dst := some 47, op := Op.call { callee := Callee.value (Operand.func 28), args := #[Operand.tmp 41, Operand.tmp 46], argTypes := #[65, 65] }, type := 4, pos := "law.go:168", after := #[{ on := 4, ground := Ground.data }, { on := 9, ground := Ground.data }], guard := none }) rfl (fun K hK => ?_) AllReadyH.nil
        go_simp
        refine (SC.out _ hH.2.2).mono ?_
        rintro e w3 ⟨rfl, bX⟩
        have BX3 : Hid (Blk X 32 [.int .i64 td, .slice (some ⟨g, o, none⟩) L lc, .slice na M nc] w3) := hH.1.below bX
        have BY3 : Hid (Blk (X + 1) 32 [.int .i64 td, .slice (some ⟨g', o', none⟩) L lc', .slice na' M nc'] w3) := hH.2.1.below bX
        have BW3 : Hid (Below w.heap.size w w3) := below_trans hH.2.2 bX
        refine hK.out _ _ ⟨BX3.out, BY3.out, BW3.out⟩ (fun hH => ?_)
        try simp only [List.setIfInBounds_toArray, List.set_cons_zero, List.set_cons_succ]
        refine wpAnyH_take (i := 11) (oi := { dst := some 48, op := Op.unOp UnOp.not 4 (Operand.tmp 47), type := 4, pos := "law.go:168", after := #[{ on := 10, ground := Ground.data }], guard := none }) (v := .bool true) rfl (by kernel_rfl) (by kernel_rfl) (by kernel_rfl) (fun _ _ _ h => h) (Or.inl ⟨by rfl, fun w' h => by go_simp⟩) hH ?_
        try simp only [Act.put, List.setIfInBounds_toArray, List.set_cons_zero, List.set_cons_succ]
        refine wpAnyH_done (by kernel_rfl) ?_ _
        clear hH hK bX
        go_wp2_with fail
        go_ret
        exact ⟨AnsB.no fun e => HQ.out (by rw [(HP.out.1 e).2.1]), BW3.out⟩
    · obtain rfl : k = L := by omega
      have EQL : Hid (ls = ls') := ext_D HLL.out.1 HLL.out.2.1 EQ.out
      clear LE LE' SL EQ
      have c2 := BX.out.cell 2 _ rfl
      have d2 := BY.out.cell 2 _ rfl
      obtain ⟨L, hLk⟩ : ∃ L, L = k := ⟨_, rfl⟩
      subst hLk
      go_wp2_with fail
      go_loopw [6] (fun vk wr => ∃ (k : Nat), vk = .int .i64 (k : Int) ∧ k ≤ M ∧ Hid (∀ j, j < k → ns.getD j nt0 = ns'.getD j nt0) ∧ Hid (Blk X 32 [.int .i64 td, .slice la L lc, .slice na M nc] wr) ∧ Hid (Blk (X + 1) 32 [.int .i64 td, .slice la' L lc', .slice na' M nc'] wr) ∧ Hid (Below w.heap.size w wr)) (fun vk _ => M - (intOf vk).toNat)
      case atStart => exact ⟨0, rfl, by omega, (fun j hj => by omega), BX.out, BY.out, BW.out⟩
      case round =>
        clear BX BY BW c1 c2 d1 d2
        obtain ⟨k, rfl, hk, EQ, BX, BY, BW⟩ := hrel
        have c2 := BX.out.cell 2 _ rfl
        have d2 := BY.out.cell 2 _ rfl
        by_cases hlt : (k : Int) < (M : Int)
        · obtain ⟨g, o, rfl, rg⟩ := NE.out k (by omega)
          obtain ⟨g', o', rfl, rg'⟩ := NE'.out k (by omega)
          obtain ⟨r, er, ir⟩ := NQ.out k (by omega) (by omega)
          have LR : Hid (∀ w', Below w.heap.size w w' → w'.rangeAt g (o + k * 6) (ntL (ns.getD k nt0))) := fun w' hb => range_up rg (by show 0 < 6; decide) hb
          have LR' : Hid (∀ w', Below w.heap.size w w' → w'.rangeAt g' (o' + k * 6) (ntL (ns'.getD k nt0))) := fun w' hb => range_up rg' (by show 0 < 6; decide) hb
          have HC : Hid ((ntL (ns.getD k nt0)).length = 6 ∧ ∀ u ∈ ntL (ns.getD k nt0), u.oneCell' = true) := ntL_one _
          have HC' : Hid ((ntL (ns'.getD k nt0)).length = 6 ∧ ∀ u ∈ ntL (ns'.getD k nt0), u.oneCell' = true) := ntL_one _
          have EE : Hid (EqR 28 (ntL (ns.getD k nt0)) (ntL (ns'.getD k nt0)) r) := er
          have IR : Hid (r = true ↔ ns.getD k nt0 = ns'.getD k nt0) := ir
          obtain ⟨C, hC⟩ : ∃ C, C = ntL (ns.getD k nt0) := ⟨_, rfl⟩
          obtain ⟨C', hC'⟩ : ∃ C, C = ntL (ns'.getD k nt0) := ⟨_, rfl⟩
          rw [← hC] at LR HC EE
          rw [← hC'] at LR' HC' EE
          clear hC hC' rg rg' er ir NE NE' NQ
          cases r with
          | true =>
            go_upto_region 11 with fail
            refine wp_region_held_drew (S := fun w' => Blk X 32 [.int .i64 td, .slice la L lc, .slice (some ⟨g, o, none⟩) M nc] w' ∧ Blk (X + 1) 32 [.int .i64 td, .slice la' L lc', .slice (some ⟨g', o', none⟩) M nc'] w' ∧ Below w.heap.size w w') (by kernel_rfl) ⟨BX.out.drewN 1, BY.out.drewN 1, below_drewN BW.out 1⟩ (fun hH => ?_)
            refine wpAnyH_take (i := 0) (oi := { dst := some 56, op := Op.fieldAddr 32 (Operand.tmp 2) 2, type := 0, pos := "law.go:173", after := #[], guard := none }) (v := .pointer (some ⟨X, 2, none⟩)) rfl (by kernel_rfl) (by kernel_rfl) (by kernel_rfl) (fun _ _ _ h => h) (Or.inl ⟨by rfl, fun w' h => by go_simp⟩) hH ?_
            try simp only [Act.put, List.setIfInBounds_toArray, List.set_cons_zero, List.set_cons_succ]
            refine wpAnyH_take (i := 1) (oi := { dst := some 57, op := Op.load 30 (Operand.tmp 56), type := 30, pos := "law.go:173", after := #[{ on := 0, ground := Ground.data }], guard := none }) (v := .slice (some ⟨g, o, none⟩) M nc) rfl (by kernel_rfl) (by kernel_rfl) (by kernel_rfl) (fun _ _ _ h => h) (Or.inl ⟨by rfl, fun w' h => by have q := Blk.cell h.1 2 _ rfl; go_simp⟩) hH ?_
            try simp only [Act.put, List.setIfInBounds_toArray, List.set_cons_zero, List.set_cons_succ]
            refine wpAnyH_take (i := 2) (oi := { dst := some 58, op := Op.move (Operand.tmp 6), type := 3, pos := "law.go:173", after := #[], guard := none }) (v := .int .i64 (k : Int)) rfl (by kernel_rfl) (by kernel_rfl) (by kernel_rfl) (fun _ _ _ h => h) (Or.inl ⟨by rfl, fun w' h => by go_simp⟩) hH ?_
            try simp only [Act.put, List.setIfInBounds_toArray, List.set_cons_zero, List.set_cons_succ]
            refine wpAnyH_take (i := 3) (oi := { dst := some 59, op := Op.indexAddr 30 (Operand.tmp 57) (Operand.tmp 58), type := 0, pos := "law.go:173", after := #[{ on := 1, ground := Ground.data }, { on := 2, ground := Ground.data }], guard := none }) (v := .pointer (some ⟨g, o + k * 6, none⟩)) rfl (by kernel_rfl) (by kernel_rfl) (by kernel_rfl) (fun _ _ _ h => h) (Or.inl ⟨by rfl, fun w' h => by go_simp⟩) hH ?_
            try simp only [Act.put, List.setIfInBounds_toArray, List.set_cons_zero, List.set_cons_succ]
            refine wpAnyH_take (i := 4) (oi := { dst := some 60, op := Op.load 28 (Operand.tmp 59), type := 28, pos := "law.go:173", after := #[{ on := 3, ground := Ground.data }], guard := none }) (v := .agg (C).toArray) rfl (by kernel_rfl) (by kernel_rfl) (by kernel_rfl) (fun _ _ _ h => h) (yieldsIf_load_mid (by rfl) _ _ rfl g (o + k * 6) rfl (C) _ (fun w' h => LR.out w' h.2.2) huN rfl (szNt HC.out.1)) hH ?_
            try simp only [Act.put, List.setIfInBounds_toArray, List.set_cons_zero, List.set_cons_succ]
            refine wpAnyH_take (i := 5) (oi := { dst := some 61, op := Op.fieldAddr 32 (Operand.tmp 3) 2, type := 0, pos := "law.go:173", after := #[], guard := none }) (v := .pointer (some ⟨X + 1, 2, none⟩)) rfl (by kernel_rfl) (by kernel_rfl) (by kernel_rfl) (fun _ _ _ h => h) (Or.inl ⟨by rfl, fun w' h => by go_simp⟩) hH ?_
            try simp only [Act.put, List.setIfInBounds_toArray, List.set_cons_zero, List.set_cons_succ]
            refine wpAnyH_take (i := 6) (oi := { dst := some 62, op := Op.load 30 (Operand.tmp 61), type := 30, pos := "law.go:173", after := #[{ on := 5, ground := Ground.data }], guard := none }) (v := .slice (some ⟨g', o', none⟩) M nc') rfl (by kernel_rfl) (by kernel_rfl) (by kernel_rfl) (fun _ _ _ h => h) (Or.inl ⟨by rfl, fun w' h => by have q := Blk.cell h.2.1 2 _ rfl; go_simp⟩) hH ?_
            try simp only [Act.put, List.setIfInBounds_toArray, List.set_cons_zero, List.set_cons_succ]
            refine wpAnyH_take (i := 7) (oi := { dst := some 63, op := Op.move (Operand.tmp 6), type := 3, pos := "law.go:173", after := #[], guard := none }) (v := .int .i64 (k : Int)) rfl (by kernel_rfl) (by kernel_rfl) (by kernel_rfl) (fun _ _ _ h => h) (Or.inl ⟨by rfl, fun w' h => by go_simp⟩) hH ?_
            try simp only [Act.put, List.setIfInBounds_toArray, List.set_cons_zero, List.set_cons_succ]
            refine wpAnyH_take (i := 8) (oi := { dst := some 64, op := Op.indexAddr 30 (Operand.tmp 62) (Operand.tmp 63), type := 0, pos := "law.go:173", after := #[{ on := 6, ground := Ground.data }, { on := 7, ground := Ground.data }], guard := none }) (v := .pointer (some ⟨g', o' + k * 6, none⟩)) rfl (by kernel_rfl) (by kernel_rfl) (by kernel_rfl) (fun _ _ _ h => h) (Or.inl ⟨by rfl, fun w' h => by go_simp⟩) hH ?_
            try simp only [Act.put, List.setIfInBounds_toArray, List.set_cons_zero, List.set_cons_succ]
            refine wpAnyH_take (i := 9) (oi := { dst := some 65, op := Op.load 28 (Operand.tmp 64), type := 28, pos := "law.go:173", after := #[{ on := 8, ground := Ground.data }], guard := none }) (v := .agg (C').toArray) rfl (by kernel_rfl) (by kernel_rfl) (by kernel_rfl) (fun _ _ _ h => h) (yieldsIf_load_mid (by rfl) _ _ rfl g' (o' + k * 6) rfl (C') _ (fun w' h => LR'.out w' h.2.2) huN rfl (szNt HC'.out.1)) hH ?_
            try simp only [Act.put, List.setIfInBounds_toArray, List.set_cons_zero, List.set_cons_succ]
            refine wpAnyH_take (i := 10) (oi := { dst := some 66, op := Op.binOp BinOp.neq 28 (Operand.tmp 60) (Operand.tmp 65) 28, type := 4, pos := "law.go:173", after := #[{ on := 4, ground := Ground.data }, { on := 9, ground := Ground.data }], guard := none }) (v := .bool false) rfl (by kernel_rfl) (by kernel_rfl) (by kernel_rfl) (fun _ _ _ h => h) (yieldsIf_neq (by rfl) 28 28 _ _ rfl C C' rfl rfl hgd EE.out rfl) hH ?_
            try simp only [Act.put, List.setIfInBounds_toArray, List.set_cons_zero, List.set_cons_succ]
            refine wpAnyH_done (by kernel_rfl) ?_ _
            clear hH
            go_wp2_with fail
            go_roundw
            case rel => exact ⟨k + 1, by go_num, by omega, (fun j hj => by
                by_cases e : j = k
                · subst e; exact IR.out.1 rfl
                · exact EQ.out j (by omega)), BX.out.drewN 1, BY.out.drewN 1, below_drewN BW.out 1⟩
            case measure => simp [intOf]; omega
          | false =>
            go_upto_region 11 with fail
            refine wp_region_held_drew (S := fun w' => Blk X 32 [.int .i64 td, .slice la L lc, .slice (some ⟨g, o, none⟩) M nc] w' ∧ Blk (X + 1) 32 [.int .i64 td, .slice la' L lc', .slice (some ⟨g', o', none⟩) M nc'] w' ∧ Below w.heap.size w w') (by kernel_rfl) ⟨BX.out.drewN 1, BY.out.drewN 1, below_drewN BW.out 1⟩ (fun hH => ?_)
            refine wpAnyH_take (i := 0) (oi := { dst := some 56, op := Op.fieldAddr 32 (Operand.tmp 2) 2, type := 0, pos := "law.go:173", after := #[], guard := none }) (v := .pointer (some ⟨X, 2, none⟩)) rfl (by kernel_rfl) (by kernel_rfl) (by kernel_rfl) (fun _ _ _ h => h) (Or.inl ⟨by rfl, fun w' h => by go_simp⟩) hH ?_
            try simp only [Act.put, List.setIfInBounds_toArray, List.set_cons_zero, List.set_cons_succ]
            refine wpAnyH_take (i := 1) (oi := { dst := some 57, op := Op.load 30 (Operand.tmp 56), type := 30, pos := "law.go:173", after := #[{ on := 0, ground := Ground.data }], guard := none }) (v := .slice (some ⟨g, o, none⟩) M nc) rfl (by kernel_rfl) (by kernel_rfl) (by kernel_rfl) (fun _ _ _ h => h) (Or.inl ⟨by rfl, fun w' h => by have q := Blk.cell h.1 2 _ rfl; go_simp⟩) hH ?_
            try simp only [Act.put, List.setIfInBounds_toArray, List.set_cons_zero, List.set_cons_succ]
            refine wpAnyH_take (i := 2) (oi := { dst := some 58, op := Op.move (Operand.tmp 6), type := 3, pos := "law.go:173", after := #[], guard := none }) (v := .int .i64 (k : Int)) rfl (by kernel_rfl) (by kernel_rfl) (by kernel_rfl) (fun _ _ _ h => h) (Or.inl ⟨by rfl, fun w' h => by go_simp⟩) hH ?_
            try simp only [Act.put, List.setIfInBounds_toArray, List.set_cons_zero, List.set_cons_succ]
            refine wpAnyH_take (i := 3) (oi := { dst := some 59, op := Op.indexAddr 30 (Operand.tmp 57) (Operand.tmp 58), type := 0, pos := "law.go:173", after := #[{ on := 1, ground := Ground.data }, { on := 2, ground := Ground.data }], guard := none }) (v := .pointer (some ⟨g, o + k * 6, none⟩)) rfl (by kernel_rfl) (by kernel_rfl) (by kernel_rfl) (fun _ _ _ h => h) (Or.inl ⟨by rfl, fun w' h => by go_simp⟩) hH ?_
            try simp only [Act.put, List.setIfInBounds_toArray, List.set_cons_zero, List.set_cons_succ]
            refine wpAnyH_take (i := 4) (oi := { dst := some 60, op := Op.load 28 (Operand.tmp 59), type := 28, pos := "law.go:173", after := #[{ on := 3, ground := Ground.data }], guard := none }) (v := .agg (C).toArray) rfl (by kernel_rfl) (by kernel_rfl) (by kernel_rfl) (fun _ _ _ h => h) (yieldsIf_load_mid (by rfl) _ _ rfl g (o + k * 6) rfl (C) _ (fun w' h => LR.out w' h.2.2) huN rfl (szNt HC.out.1)) hH ?_
            try simp only [Act.put, List.setIfInBounds_toArray, List.set_cons_zero, List.set_cons_succ]
            refine wpAnyH_take (i := 5) (oi := { dst := some 61, op := Op.fieldAddr 32 (Operand.tmp 3) 2, type := 0, pos := "law.go:173", after := #[], guard := none }) (v := .pointer (some ⟨X + 1, 2, none⟩)) rfl (by kernel_rfl) (by kernel_rfl) (by kernel_rfl) (fun _ _ _ h => h) (Or.inl ⟨by rfl, fun w' h => by go_simp⟩) hH ?_
            try simp only [Act.put, List.setIfInBounds_toArray, List.set_cons_zero, List.set_cons_succ]
            refine wpAnyH_take (i := 6) (oi := { dst := some 62, op := Op.load 30 (Operand.tmp 61), type := 30, pos := "law.go:173", after := #[{ on := 5, ground := Ground.data }], guard := none }) (v := .slice (some ⟨g', o', none⟩) M nc') rfl (by kernel_rfl) (by kernel_rfl) (by kernel_rfl) (fun _ _ _ h => h) (Or.inl ⟨by rfl, fun w' h => by have q := Blk.cell h.2.1 2 _ rfl; go_simp⟩) hH ?_
            try simp only [Act.put, List.setIfInBounds_toArray, List.set_cons_zero, List.set_cons_succ]
            refine wpAnyH_take (i := 7) (oi := { dst := some 63, op := Op.move (Operand.tmp 6), type := 3, pos := "law.go:173", after := #[], guard := none }) (v := .int .i64 (k : Int)) rfl (by kernel_rfl) (by kernel_rfl) (by kernel_rfl) (fun _ _ _ h => h) (Or.inl ⟨by rfl, fun w' h => by go_simp⟩) hH ?_
            try simp only [Act.put, List.setIfInBounds_toArray, List.set_cons_zero, List.set_cons_succ]
            refine wpAnyH_take (i := 8) (oi := { dst := some 64, op := Op.indexAddr 30 (Operand.tmp 62) (Operand.tmp 63), type := 0, pos := "law.go:173", after := #[{ on := 6, ground := Ground.data }, { on := 7, ground := Ground.data }], guard := none }) (v := .pointer (some ⟨g', o' + k * 6, none⟩)) rfl (by kernel_rfl) (by kernel_rfl) (by kernel_rfl) (fun _ _ _ h => h) (Or.inl ⟨by rfl, fun w' h => by go_simp⟩) hH ?_
            try simp only [Act.put, List.setIfInBounds_toArray, List.set_cons_zero, List.set_cons_succ]
            refine wpAnyH_take (i := 9) (oi := { dst := some 65, op := Op.load 28 (Operand.tmp 64), type := 28, pos := "law.go:173", after := #[{ on := 8, ground := Ground.data }], guard := none }) (v := .agg (C').toArray) rfl (by kernel_rfl) (by kernel_rfl) (by kernel_rfl) (fun _ _ _ h => h) (yieldsIf_load_mid (by rfl) _ _ rfl g' (o' + k * 6) rfl (C') _ (fun w' h => LR'.out w' h.2.2) huN rfl (szNt HC'.out.1)) hH ?_
            try simp only [Act.put, List.setIfInBounds_toArray, List.set_cons_zero, List.set_cons_succ]
            refine wpAnyH_take (i := 10) (oi := { dst := some 66, op := Op.binOp BinOp.neq 28 (Operand.tmp 60) (Operand.tmp 65) 28, type := 4, pos := "law.go:173", after := #[{ on := 4, ground := Ground.data }, { on := 9, ground := Ground.data }], guard := none }) (v := .bool true) rfl (by kernel_rfl) (by kernel_rfl) (by kernel_rfl) (fun _ _ _ h => h) (yieldsIf_neq (by rfl) 28 28 _ _ rfl C C' rfl rfl hgd EE.out rfl) hH ?_
            try simp only [Act.put, List.setIfInBounds_toArray, List.set_cons_zero, List.set_cons_succ]
            refine wpAnyH_done (by kernel_rfl) ?_ _
            clear hH
            go_wp2_with fail
            go_ret
            refine ⟨AnsB.no fun e => ?_, below_drewN BW.out 1⟩
            have := IR.out.2 (by rw [(HP.out.1 e).2.2])
            cases this
        · obtain rfl : k = M := by omega
          have EQN : Hid (ns = ns') := ext_D HLL.out.2.2.1 HLL.out.2.2.2 EQ.out
          go_wp2_with fail
          go_ret
          exact ⟨AnsB.yes (HP.out.2 ⟨by first | rfl | trivial, EQL.out, EQN.out⟩), BW.out⟩
end Go.Proofs.Ytdbjjeaflfoppaa
