/-
  Ours: the shelf's put.
-/
import Derived.Test.YtmbbigkpeefjjabDoorCoShf
import Derived.Test.YtmbbigkpeefjjabDoorCoOpn
import Derived.Deep.AppendLies
namespace Go.Proofs.YtmbbigkpeefjjabDoor
open Go.RowKit LedM PolM CoM

theorem rp_step (acts : List Int) (n k : Nat) (hk : k < acts.length) : (bkL (rpL k n ++ acts.drop k)).set k (.int .i64 (-1 - (n : Int))) = bkL (rpL (k + 1) n ++ acts.drop (k + 1)) := by
  have e1 : acts.drop k = acts[k] :: acts.drop (k + 1) := List.drop_eq_getElem_cons hk
  have e2 : rpL (k + 1) n = rpL k n ++ [-1 - (n : Int)] := List.replicate_succ'
  rw [e1, e2]
  simp only [bkL, List.map_append, List.map_cons, List.append_assoc, List.cons_append, List.nil_append]
  rw [List.set_append_right _ _ (by simp [rpL_len]), List.length_map, rpL_len, Nat.sub_self]
  rfl
section
variable {B SB : Nat} {w w1 w2 : World} {vL vG v v' : Value} {vs us : List Value}
/-- What put answers. -/
def PutAns (B SB : Nat) (v : Value) (vs us : List Value) (w : World) (e : Ending) (w' : World) : Prop :=
  e = .returned (.tuple #[]) ∧ ∃ vL vG u, SH B SB w' vL vG (vs ++ [v]) (us ++ [u]) ∧ (∀ g, u.ownBlock = some g → v.ownBlock = some g ∨ w.heap.size ≤ g) ∧ PFr B v w w'
theorem wpList_pushLies {P : Program} {W : World} {ops : Array Oper} {rest : List Oper} {o : Oper} {a : Act} {Q : Exit → Act → World → Prop} (hgd : o.guard = none) (s x : Operand) (t : TypeId)
    (ho : o.op = .call { callee := .builtin .append, args := #[s, x], argTypes := #[t, t] })
    (e : TypeId) (i : TypeInfo) (z : Value) (by' : Nat) (ht : P.underlying t = some (.slice e)) (hi : P.info? e = some i) (hz : i.zero = some z) (hsize : i.size = 1) (hby : i.bytes = by') (hzc : z.cells.size = 1)
    (base : Nat) (v : Value) (vs : List Value) (y : Value) (hy : y.oneCell' = true) (hs : a.eval s = v) (hown : RowV e base W v vs) (hsz : base ≤ W.heap.size)
    (Bx : Nat) (hx : a.eval x = .slice (some ⟨Bx, 0, none⟩) 1 1) (hb : Blk Bx e [y] W) (hl : vs.length + 1 ≤ maxLen) (hl2 : (vs.length + 1) * by' ≤ 140737488355328)
    (h : ∀ ao n cap w', RowV e base w' (.slice ao n cap) (vs ++ [y]) → W.grownBy w' v.ownBlock → (∀ g, (Value.slice ao n cap).ownBlock = some g → v.ownBlock = some g ∨ W.heap.size ≤ g) → wpList P ops Q rest (a.put o.dst (.slice ao n cap)) w') :
    wpList P ops Q (o :: rest) a W := by
  refine wpList_append_lies _ hgd s x t ho base e i z 1 by' ht hi hz hsize hby hzc (by decide) v vs.length vs hs hown ⟨Bx, 0, none⟩ 1 1 [y] hx rfl (World.news_of_block hb) (fun u hu => by simp at hu; subst hu; exact hy) (by decide) hl hl2 hsz W.heap.size rfl ?_
  intro g cap w' r gr hg hlt
  refine h _ _ _ w' ?_ gr (fun g' e => ?_)
  · unfold RowV
    rw [List.length_append]
    exact r
  · have : g = g' := by simpa [Value.ownBlock] using e
    subst this
    rcases hg with h1 | h1
    · exact .inl h1
    · exact .inr (by omega)
theorem getD_lt {α : Type} (a b : List α) (i : Nat) (d : α) (h : i < a.length) : (a ++ b).getD i d = a.getD i d := by rw [List.getD_eq_getElem?_getD, List.getElem?_append_left h, ← List.getD_eq_getElem?_getD]
theorem getD_eq {α : Type} (a : List α) (x : α) (d : α) : (a ++ [x]).getD a.length d = x := by rw [List.getD_eq_getElem?_getD, List.getElem?_append_right (Nat.le_refl _)]; simp
end
set_option maxRecDepth 20000 in
set_option maxHeartbeats 4000000 in
theorem put_at {B SB : Nat} {w : World} {vL vG : Value} {vs us : List Value} {va : Option Addr} {vn vc : Nat} (acts : List Int) (h : SH B SB w vL vG vs us) (hv : RowV 3 B w (.slice va vn vc) (bkL acts)) (hf : Far (.slice va vn vc) vs us) (hn : vs.length ≤ 4194304) (ha : acts.length ≤ 1000) :
    Calls Tryd.prog 19 #[.pointer (some ⟨SB, 0, none⟩), .slice va vn vc] w (PutAns B SB (.slice va vn vc) vs us w) := by
  obtain ⟨i0, hi0, hz0, hz1, hz2⟩ := info_partsC infoSl
  obtain ⟨la, lc, rfl, -, -⟩ := h.rl.rd.len
  obtain ⟨ga, gc, rfl, -, -⟩ := h.rg.rd.len
  have hvn : vn = acts.length := by
    obtain ⟨_, _, q, _⟩ := hv.rd.len
    injection q with _ q _
    rw [q, bkL_len]
  have HF : Hid (Far (.slice va vn vc) vs us) := hf
  have HU : Hid (us.length = vs.length) := h.len
  have L1 : Hid (vs.length + 1 ≤ maxLen) := by show _ ≤ _; unfold maxLen; omega
  have L2 : Hid ((vs.length + 1) * 24 ≤ 140737488355328) := by show _ ≤ _; omega
  have L3 : Hid (us.length + 1 ≤ maxLen) := by show _ ≤ _; rw [h.len]; unfold maxLen; omega
  have L4 : Hid ((us.length + 1) * 24 ≤ 140737488355328) := by show _ ≤ _; rw [h.len]; omega
  have RS : Hid (∀ k, k < acts.length → (bkL (rpL k vs.length ++ acts.drop k)).set k (.int .i64 (-1 - (vs.length : Int))) = bkL (rpL (k + 1) vs.length ++ acts.drop (k + 1))) := rp_step acts vs.length
  have RE : Hid (bkL (rpL acts.length vs.length ++ acts.drop acts.length) = bkL (rpL acts.length vs.length)) := by show _ = _; rw [List.drop_length, List.append_nil]
  have LB : Hid (∀ k, k ≤ acts.length → (bkL (rpL k vs.length ++ acts.drop k)).length = acts.length) := fun k hk => by rw [bkL_len, List.length_append, rpL_len, List.length_drop]; omega
  have S0 : Hid (SH B SB w (.slice la vs.length lc) (.slice ga us.length gc) vs us ∧ RowV 3 B w (.slice va vn vc) (bkL (rpL 0 vs.length ++ acts.drop 0)) ∧ PFr B (.slice va vn vc) w w) := ⟨h, hv, PFr.refl _ _ _⟩
  have HA : Hid (acts.length ≤ 1000) := ha
  clear h hv hf ha
  obtain ⟨A, hA⟩ : ∃ A, acts.length = A := ⟨_, rfl⟩
  rw [hA] at hvn RS RE LB HA
  subst hvn
  clear hA
  obtain ⟨n, hN⟩ : ∃ n, vs.length = n := ⟨_, rfl⟩
  have HN : Hid (vs.length = n) := hN
  rw [hN] at hn RS RE LB S0
  clear hN
  obtain ⟨nu, hNU⟩ : ∃ nu, us.length = nu := ⟨_, rfl⟩
  have HNU : Hid (us.length = nu) := hNU
  rw [hNU] at S0
  clear hNU
  go_enter Tryd.func19, Tryd.ntmps19
  go_wp2_with fail
  go_loopw [4] (fun v4 wr => ∃ k : Nat, v4 = .int .i64 (k : Int) ∧ k ≤ vn ∧ Hid (SH B SB wr (.slice la n lc) (.slice ga nu gc) vs us ∧ RowV 3 B wr (.slice va vn vc) (bkL (rpL k n ++ acts.drop k)) ∧ PFr B (.slice va vn vc) w wr)) (fun v4 _ => vn - (intOf v4).toNat)
  case atStart => exact ⟨0, rfl, by omega, S0⟩
  case round =>
    obtain ⟨k, rfl, hk, SR⟩ := hrel
    clear S0
    have c0 : wr.cell? ⟨SB, 0, none⟩ = some (.slice la n lc) := SR.out.1.blk.cell 0 _ rfl
    by_cases hlt : (k : Int) < (vn : Int)
    · have lb := LB.out k hk
      obtain ⟨g, rfl, -, -, hcell⟩ := slice_some SR.out.2.1 (by rw [lb]; omega)
      have y : World.ownsRow wr B 3 1 (.slice (some ⟨g, 0, none⟩) vn vc) vn (bkL (rpL k n ++ acts.drop k)) := by
        have z := SR.out.2.1
        unfold RowV at z
        rw [lb] at z; exact z
      have ck : (wr.cell? ⟨g, k, none⟩).isSome = true := by rw [hcell k _ (List.getElem?_eq_getElem (by rw [lb]; omega))]; rfl
      obtain ⟨old, hold⟩ := Option.isSome_iff_exists.1 ck
      have fk : wr.frozen? ⟨g, k, none⟩ = false := World.ownsRow.frozenAt y k
      have gl : g < wr.heap.size := SR.out.2.1.block_lt rfl
      have SN : Hid (SH B SB (wr.setCell ⟨g, k, none⟩ (.int .i64 (-1 - (n : Int)))) (.slice la n lc) (.slice ga nu gc) vs us ∧ RowV 3 B (wr.setCell ⟨g, k, none⟩ (.int .i64 (-1 - (n : Int)))) (.slice (some ⟨g, 0, none⟩) vn vc) (bkL (rpL (k + 1) n ++ acts.drop (k + 1))) ∧ PFr B (.slice (some ⟨g, 0, none⟩) vn vc) w (wr.setCell ⟨g, k, none⟩ (.int .i64 (-1 - (n : Int))))) := by
        have gr : wr.grownBy (wr.setCell ⟨g, k, none⟩ (.int .i64 (-1 - (n : Int)))) (Value.slice (some ⟨g, 0, none⟩) vn vc).ownBlock := setCell_grown _ _ _ _
        refine ⟨SR.out.1.intw SR.out.2.1 gr HF.out, ?_, SR.out.2.2.intw SR.out.1.size SR.out.2.1 gr⟩
        have lb' := LB.out (k + 1) (by omega)
        have z := (World.ownsRow.stored y k (.int .i64 (-1 - (n : Int)))).1
        rw [RS.out k (by omega)] at z
        unfold RowV
        rw [lb']; exact z
      clear SR ck hcell lb y
      have hvn := HA.out
      go_wp2_with fail
      go_roundw
      case rel => exact ⟨k + 1, by go_num, by omega, SN⟩
      case measure => simp [intOf]; omega
    · obtain rfl : k = vn := by omega
      rw [RE.out] at SR
      clear RS RE LB hlt hk
      have W1 : Hid (SH B SB (wr.alloc (.cells #[.slice va k vc] 22)) (.slice la n lc) (.slice ga nu gc) vs us) := SR.out.1.later (below_alloc _ _)
      have W2 : Hid (RowV 3 B (wr.alloc (.cells #[.slice va k vc] 22)) (.slice va k vc) (bkL (rpL k n))) := SR.out.2.1.later (below_alloc _ _)
      have W3 : Hid (PFr B (.slice va k vc) w (wr.alloc (.cells #[.slice va k vc] 22))) := SR.out.2.2.later SR.out.1.size (below_alloc _ _)
      have W4 : Hid (Blk wr.heap.size 22 [.slice va k vc] (wr.alloc (.cells #[.slice va k vc] 22))) := Blk.new _ _ _
      go_upto_region 5 with (at_builtin; refine wpList_pushLies rfl (.tmp 25) (.tmp 27) 33 rfl 22 i0 (.slice none 0 0) 24 Tryd.underlying33 hi0 hz0 hz1 hz2 rfl B _ vs (.slice va k vc) rfl rfl W1.out.rl W1.out.size wr.heap.size rfl W4.out L1.out L2.out ?_; intro a1 n1 k1 w1 r1 g1 l1; have M1 : Blk SB 35 [.slice la n lc, .slice ga nu gc] w1 := W1.out.blk.grown g1 (row_ne_blkC W1.out.rl W1.out.blk sl_ne_sh); have d0 := M1.cell 0 _ rfl; have f0 := M1.fz 0; have lt0 := M1.lt)
      have hB := W1.out.size
      have hB1 : B ≤ w1.heap.size := Nat.le_trans hB g1.size
      have X1 : Hid (Blk SB 35 [.slice a1 n1 k1, .slice ga nu gc] (w1.setCell ⟨SB, 0, none⟩ (.slice a1 n1 k1))) := M1.set (i := 0) (.slice a1 n1 k1)
      have gs : w1.grownBy (w1.setCell ⟨SB, 0, none⟩ (.slice a1 n1 k1)) (some SB) := setCell_grown _ _ _ _
      have X2 : Hid (RowV 22 B (w1.setCell ⟨SB, 0, none⟩ (.slice a1 n1 k1)) (.slice a1 n1 k1) (vs ++ [.slice va k vc])) := rowV_blk r1 M1 gs sl_ne_sh
      have X3 : Hid (RowV 22 B (w1.setCell ⟨SB, 0, none⟩ (.slice a1 n1 k1)) (.slice ga nu gc) us) := rowV_blk (W1.out.rg.kept g1 (fun q hq e => W1.out.ap q e hq)) M1 gs sl_ne_sh
      have X4 : Hid (∀ g, (Value.slice a1 n1 k1).ownBlock = some g → (Value.slice ga nu gc).ownBlock ≠ some g) := fun g h1 h2 => by
        rcases l1 g h1 with h3 | h3
        · exact W1.out.ap g h3 h2
        · have := W1.out.rg.block_lt h2; omega
      have X5 : Hid (RowV 3 B (w1.setCell ⟨SB, 0, none⟩ (.slice a1 n1 k1)) (.slice va k vc) (bkL (rpL k n))) := rowV_blk (kept_rowC W1.out.rl g1 W2.out (fun e => int_ne_sl e.symm)) M1 gs int_ne_sh
      have X6 : Hid (PFr B (.slice va k vc) w (w1.setCell ⟨SB, 0, none⟩ (.slice a1 n1 k1))) := (W3.out.slw hB W1.out.rl g1).shw hB1 W1.out.ge M1 gs
      have X7 : Hid (∀ i, i < n → ∃ m, m ≤ 1000 ∧ RowV 3 B (w1.setCell ⟨SB, 0, none⟩ (.slice a1 n1 k1)) (vs.getD i undef) (bkL (rpL m i)) ∧ RowV 3 B (w1.setCell ⟨SB, 0, none⟩ (.slice a1 n1 k1)) (us.getD i undef) (bkL (rpL m i) ++ z64)) := fun i hi => by
        obtain ⟨m, h0, h1, h2⟩ := W1.out.it i (by rw [HN.out]; exact hi)
        exact ⟨m, h0, rowV_blk (kept_rowC W1.out.rl g1 h1 (fun e => int_ne_sl e.symm)) M1 gs int_ne_sh, rowV_blk (kept_rowC W1.out.rl g1 h2 (fun e => int_ne_sl e.symm)) M1 gs int_ne_sh⟩
      have GE : Hid (B ≤ SB) := W1.out.ge
      have HS : Hid (w.heap.size ≤ (w1.setCell ⟨SB, 0, none⟩ (.slice a1 n1 k1)).heap.size) := X6.out.sz
      clear W1 W2 W3 W4 SR M1 r1 g1 l1 d0 f0 lt0 gs c0 hB hB1
      generalize w1.setCell ⟨SB, 0, none⟩ (.slice a1 n1 k1) = w2 at *
      have hB : B ≤ w2.heap.size := by have := X1.out.lt; have := GE.out; omega
      have LR : (bkL (rpL k n)).length ≤ 1000000 := by rw [bkL_len, rpL_len]; have := HA.out; omega
      go_upto_region 6 with (at_builtin; refine wpList_zerosR rfl (.tmp 31) (.const (.int .i64 64)) rfl B _ (bkL (rpL k n)) rfl X5.out hB rfl LR ?_; intro ua un uc w3 g3 v3 u3 l3)
      have fr : ∀ (x : Value) (xs : List Value) (B' : Nat), RowV 3 B' w2 x xs → (∀ g, x.ownBlock = some g → (Value.slice va k vc).ownBlock ≠ some g) → RowV 3 B' w3 x xs := fun x xs B' h1 h2 => h1.kept g3 (fun q hq e => h2 q hq e)
      have Y1 : Hid (Blk SB 35 [.slice a1 n1 k1, .slice ga nu gc] w3) := X1.out.grown g3 (row_ne_blkC X5.out X1.out int_ne_sh)
      have Y2 : Hid (RowV 22 B w3 (.slice a1 n1 k1) (vs ++ [.slice va k vc])) := kept_rowC X5.out g3 X2.out int_ne_sl
      have Y3 : Hid (RowV 22 B w3 (.slice ga nu gc) us) := kept_rowC X5.out g3 X3.out int_ne_sl
      have Y5 : Hid (RowV 3 B w3 (.slice va k vc) (bkL (rpL k n))) := v3
      have YU : Hid (RowV 3 B w3 (.slice ua un uc) (bkL (rpL k n) ++ z64)) := u3
      have Y6 : Hid (PFr B (.slice va k vc) w w3) := X6.out.intw hB X5.out g3
      have Y7 : Hid (∀ i, i < n → ∃ m, m ≤ 1000 ∧ RowV 3 B w3 (vs.getD i undef) (bkL (rpL m i)) ∧ RowV 3 B w3 (us.getD i undef) (bkL (rpL m i) ++ z64)) := fun i hi => by
        obtain ⟨m, h0, h1, h2⟩ := X7.out i hi
        have hh := fun q => HF.out i (by rw [HN.out]; exact hi) q
        exact ⟨m, h0, fr _ _ _ h1 (fun g hg e => (hh g e).1 hg), fr _ _ _ h2 (fun g hg e => (hh g e).2 hg)⟩
      have YL : Hid (∀ g, (Value.slice ua un uc).ownBlock = some g → (Value.slice va k vc).ownBlock = some g ∨ w.heap.size ≤ g) := fun g hg => by
        rcases l3 g hg with h1 | h1
        · exact .inl h1
        · exact .inr (by have := HS.out; omega)
      clear X1 X2 X3 X5 X6 X7 g3 v3 u3 l3 fr hB LR HS
      have hB : B ≤ w3.heap.size := by have := Y1.out.lt; have := GE.out; omega
      have W1 : Hid (Blk w3.heap.size 22 [.slice ua un uc] (w3.alloc (.cells #[.slice ua un uc] 22))) := Blk.new _ _ _
      have W2 : Hid (Blk SB 35 [.slice a1 n1 k1, .slice ga nu gc] (w3.alloc (.cells #[.slice ua un uc] 22))) := Y1.out.below (below_alloc _ _)
      have W3 : Hid (RowV 22 B (w3.alloc (.cells #[.slice ua un uc] 22)) (.slice a1 n1 k1) (vs ++ [.slice va k vc])) := Y2.out.later (below_alloc _ _)
      have W4 : Hid (RowV 22 B (w3.alloc (.cells #[.slice ua un uc] 22)) (.slice ga nu gc) us) := Y3.out.later (below_alloc _ _)
      have hB4 : B ≤ (w3.alloc (.cells #[.slice ua un uc] 22)).heap.size := Nat.le_trans hB (below_alloc _ _).size
      have c1 := Y1.out.cell 1 _ rfl
      go_wp2_with (at_builtin; refine wpList_pushLies rfl (.tmp 37) (.tmp 39) 33 rfl 22 i0 (.slice none 0 0) 24 Tryd.underlying33 hi0 hz0 hz1 hz2 rfl B _ us (.slice ua un uc) rfl rfl W4.out hB4 w3.heap.size rfl W1.out L3.out L4.out ?_; intro a4 n4 k4 w4 r4 g4 l4; have M4 : Blk SB 35 [.slice a1 n1 k1, .slice ga nu gc] w4 := W2.out.grown g4 (row_ne_blkC W4.out W2.out sl_ne_sh); have d4 := M4.cell 1 _ rfl; have f4 := M4.fz 1; have lt4 := M4.lt)
      go_end0
      have gs : w4.grownBy (w4.setCell ⟨SB, 1, none⟩ (.slice a4 n4 k4)) (some SB) := setCell_grown _ _ _ _
      have mv : ∀ {x : Value} {xs : List Value} {B' : Nat}, RowV 3 B' w3 x xs → RowV 3 B' (w4.setCell ⟨SB, 1, none⟩ (.slice a4 n4 k4)) x xs := fun h1 => rowV_blk (kept_rowC W4.out g4 (h1.later (below_alloc _ _)) (fun e => int_ne_sl e.symm)) M4 gs int_ne_sh
      refine ⟨rfl, .slice a1 n1 k1, .slice a4 n4 k4, .slice ua un uc, ⟨GE.out, M4.set (i := 1) (.slice a4 n4 k4), rowV_blk (W3.out.kept g4 (fun q hq e => X4.out q hq e)) M4 gs sl_ne_sh, rowV_blk r4 M4 gs sl_ne_sh, fun g h1 h2 => ?_, by rw [List.length_append, List.length_append, HU.out]; rfl, fun i hi => ?_⟩, YL.out, ?_⟩
      · rcases l4 g h2 with h3 | h3
        · exact X4.out g h1 h3
        · have := W3.out.block_lt h1; omega
      · by_cases h1 : i < n
        · obtain ⟨m, h0, h2, h3⟩ := Y7.out i h1
          refine ⟨m, h0, ?_, ?_⟩
          · rw [getD_lt _ _ _ _ (by rw [HN.out]; exact h1)]; exact mv h2
          · rw [getD_lt _ _ _ _ (by rw [HU.out, HN.out]; exact h1)]; exact mv h3
        · obtain rfl : i = n := by rw [List.length_append, HN.out] at hi; simp at hi; omega
          refine ⟨k, HA.out, ?_, ?_⟩
          · rw [show (vs ++ [Value.slice va k vc]).getD i undef = .slice va k vc from by rw [← HN.out]; exact getD_eq _ _ _]; exact mv Y5.out
          · rw [show (us ++ [Value.slice ua un uc]).getD i undef = .slice ua un uc from by rw [← HN.out, ← HU.out]; exact getD_eq _ _ _]; exact mv YU.out
      · exact ((Y6.out.later hB (below_alloc _ _)).slw hB4 W4.out g4).shw (Nat.le_trans hB4 g4.size) GE.out M4 gs
end Go.Proofs.YtmbbigkpeefjjabDoor
