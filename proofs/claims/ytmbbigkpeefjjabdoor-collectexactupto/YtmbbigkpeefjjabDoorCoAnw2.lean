/-
  Ours: the walk of the statements' anew (gen_coanw.py).
-/
import Derived.Test.YtmbbigkpeefjjabDoorCoPut
import Derived.Test.YtmbbigkpeefjjabDoorCoRf5
import Derived.Test.YtmbbigkpeefjjabDoorCoOpn
import Derived.Test.YtmbbigkpeefjjabDoorCoCnt
import Derived.Test.YtmbbigkpeefjjabDoorCoSt
namespace Go.Proofs.YtmbbigkpeefjjabDoor
open Go.RowKit LedM PolM CoM

def prL (c d : Cs) : List Value := csL c ++ csL d
abbrev prV (c d : Cs) : Value := .agg (prL c d).toArray
theorem sizePr (c d : Cs) : (Tryd.prog.info? 29).map (·.size) = some (prL c d).length := by show _ = some 30; kernel_rfl
theorem prL_one (c d : Cs) : ∀ v ∈ prL c d, v.oneCell' = true := fun v hv => by
  rcases List.mem_append.1 hv with h | h
  · exact csL_one c v h
  · exact csL_one d v h
theorem pr_c {c d : Cs} {G : Nat} {T : TypeId} {w : World} (h : Blk G T (prL c d) w) : w.rangeAt G 0 (csL c) := h.range 0 15
theorem pr_r {c d : Cs} {G : Nat} {T : TypeId} {w : World} (h : Blk G T (prL c d) w) : w.rangeAt G 15 (csL d) := h.range 15 15
theorem gb_later {w w1 w2 : World} {r : Option Nat} (h : w.grownBy w1 r) (b : Below w1.heap.size w1 w2) : w.grownBy w2 r :=
  ⟨b.os.trans h.os, b.tape.trans h.tape, b.output.trans h.output, Nat.le_trans h.size b.size, fun k hk hr => (b.block k (Nat.lt_of_lt_of_le hk h.size)).trans (h.block k hk hr)⟩
theorem gb_new {w w1 w2 : World} {r : Option Nat} {G : Nat} (h : w.grownBy w1 r) (g : w1.grownBy w2 (some G)) (hG : w.heap.size ≤ G) : w.grownBy w2 r :=
  ⟨g.os.trans h.os, g.tape.trans h.tape, g.output.trans h.output, Nat.le_trans h.size g.size, fun k hk hr => (g.block k (Nat.lt_of_lt_of_le hk h.size) (fun e => by injection e with e; omega)).trans (h.block k hk hr)⟩
namespace CoM
def ir (k : Nat) : List Int := (List.range k).map Int.ofNat
theorem ir_len (k : Nat) : (ir k).length = k := by simp [ir]
theorem ir_step (hs : List Int) (k : Nat) (hk : k < hs.length) : (bkL (ir k ++ hs.drop k)).set k (.int .i64 (k : Int)) = bkL (ir (k + 1) ++ hs.drop (k + 1)) := by
  have e1 : hs.drop k = hs[k] :: hs.drop (k + 1) := List.drop_eq_getElem_cons hk
  have e2 : ir (k + 1) = ir k ++ [(k : Int)] := by unfold ir; rw [List.range_succ, List.map_append]; rfl
  rw [e1, e2]
  simp only [bkL, List.map_append, List.map_cons, List.append_assoc, List.cons_append, List.nil_append]
  rw [List.set_append_right _ _ (by simp [ir_len]), List.length_map, ir_len, Nat.sub_self]
  rfl
end CoM
/-- What stands while the holidays are written over. -/
structure AN (w0 w : World) (l : List Int) (s t oq : Value) (c : Cs) (ev : Ev) (QB : Nat) (zs zq : List Int) (w' : World) : Prop where
  kd : KD w0 [(w.heap.size, 24, polL l s), (w.heap.size + 1, 24, polL l t), (w.heap.size + 1 + 1, 29, prL c c), (w.heap.size + 1 + 1 + 1, 37, evL ev), (QB, 24, polL l oq)] w'
  rt : RowV 3 w0.heap.size w' t (bkL zs)
  rq : RowV 3 w.heap.size w' oq (bkL zq)
  ap : ∀ g, t.ownBlock = some g → g < w.heap.size
  gb : w.grownBy w' t.ownBlock
theorem int_ne_pr : (3 : TypeId) ≠ 29 := by decide
theorem AN.later {w0 w : World} {l : List Int} {s t oq : Value} {c : Cs} {ev : Ev} {QB : Nat} {zs zq : List Int} {w1 w2 : World} (h : AN w0 w l s t oq c ev QB zs zq w1) (b : Below w1.heap.size w1 w2) : AN w0 w l s t oq c ev QB zs zq w2 := ⟨h.kd.call b, h.rt.later b, h.rq.later b, h.ap, gb_later h.gb b⟩
theorem kd_row {w0 w1 w2 : World} {bs : List (Nat × TypeId × List Value)} {B : Nat} {v : Value} {xs : List Value} (h : KD w0 bs w1) (hT : ∀ (k : Nat) (q : Nat × TypeId × List Value), bs[k]? = some q → 3 ≠ q.2.1) (hv : RowV 3 B w1 v xs) (hB : w0.heap.size ≤ B) (g : w1.grownBy w2 v.ownBlock) : KD w0 bs w2 :=
  ⟨below_grown h.bb hv hB h.bb.size g, fun k q hq => ⟨(h.bk k q hq).1, (h.bk k q hq).2.grown g (row_ne_blkC hv (h.at k hq) (hT k q hq))⟩, h.nd⟩
theorem RowV.set1 {B : Nat} {w : World} {g n c : Nat} {zs zs' : List Int} {k : Nat} {u : Value} (h : RowV 3 B w (.slice (some ⟨g, 0, none⟩) n c) (bkL zs)) (e : (bkL zs).set k u = bkL zs') : RowV 3 B (w.setCell ⟨g, k, none⟩ u) (.slice (some ⟨g, 0, none⟩) n c) (bkL zs') := by
  have hn : n = (bkL zs).length := by
    obtain ⟨_, _, q, _⟩ := h.rd.len
    injection q with _ q _
  have y : World.ownsRow w B 3 1 (.slice (some ⟨g, 0, none⟩) n c) n (bkL zs) := by have z := h; unfold RowV at z; rw [← hn] at z; exact z
  have z := (World.ownsRow.stored y k u).1
  rw [e] at z
  have hn' : n = (bkL zs').length := by rw [← e, List.length_set]; exact hn
  unfold RowV; rw [← hn']; exact z
theorem RowV.frz {B : Nat} {w : World} {g n c : Nat} {zs : List Int} (h : RowV 3 B w (.slice (some ⟨g, 0, none⟩) n c) (bkL zs)) (k : Nat) : w.frozen? ⟨g, k, none⟩ = false := by
  have hn : n = (bkL zs).length := by
    obtain ⟨_, _, q, _⟩ := h.rd.len
    injection q with _ q _
  have y : World.ownsRow w B 3 1 (.slice (some ⟨g, 0, none⟩) n c) n (bkL zs) := by have z := h; unfold RowV at z; rw [← hn] at z; exact z
  exact World.ownsRow.frozenAt y k
section
variable {w0 w : World} {l : List Int} {s t oq : Value} {c : Cs} {ev : Ev} {QB : Nat} {zs zq zs' : List Int} {w1 : World} {k g n k1 : Nat} {u : Value}
theorem AN.hT : ∀ (k : Nat) (q : Nat × TypeId × List Value), [(w.heap.size, 24, polL l s), (w.heap.size + 1, 24, polL l t), (w.heap.size + 1 + 1, 29, prL c c), (w.heap.size + 1 + 1 + 1, 37, evL ev), (QB, 24, polL l oq)][k]? = some q → 3 ≠ q.2.1 := fun k q hq => by
    rcases k with _ | k; (· cases hq; exact int_ne_pol); rcases k with _ | k; (· cases hq; exact int_ne_pol); rcases k with _ | k; (· cases hq; exact int_ne_pr); rcases k with _ | k; (· cases hq; exact int_ne_ev); rcases k with _ | k; (· cases hq; exact int_ne_pol); cases hq
theorem AN.apart (h : AN w0 w l s t oq c ev QB zs zq w1) : ∀ g, t.ownBlock = some g → oq.ownBlock ≠ some g := fun g h1 h2 => by
  have a := h.ap g h1
  have b := h.rq.block_ge h2
  omega
theorem AN.stepq (h : AN w0 w l s t (.slice (some ⟨g, 0, none⟩) n k1) c ev QB zs zq w1) (e : (bkL zq).set k u = bkL zs') (hw : w0.heap.size ≤ w.heap.size) : AN w0 w l s t (.slice (some ⟨g, 0, none⟩) n k1) c ev QB zs zs' (w1.setCell ⟨g, k, none⟩ u) := by
  have g1 : w1.grownBy (w1.setCell ⟨g, k, none⟩ u) (Value.slice (some ⟨g, 0, none⟩) n k1).ownBlock := setCell_grown _ _ _ _
  exact ⟨kd_row h.kd AN.hT h.rq hw g1, h.rt.kept g1 (fun q hq e => h.apart q hq e), h.rq.set1 e, h.ap, gb_new h.gb g1 (h.rq.block_ge rfl)⟩
theorem AN.stept (h : AN w0 w l s (.slice (some ⟨g, 0, none⟩) n k1) oq c ev QB zs zq w1) (e : (bkL zs).set k u = bkL zs') : AN w0 w l s (.slice (some ⟨g, 0, none⟩) n k1) oq c ev QB zs' zq (w1.setCell ⟨g, k, none⟩ u) := by
  have g1 : w1.grownBy (w1.setCell ⟨g, k, none⟩ u) (Value.slice (some ⟨g, 0, none⟩) n k1).ownBlock := setCell_grown _ _ _ _
  exact ⟨kd_row h.kd AN.hT h.rt (Nat.le_refl _) g1, h.rt.set1 e, h.rq.kept g1 (fun q hq e => h.apart q e hq), h.ap, grownBy_trans h.gb g1⟩
end
end Go.Proofs.YtmbbigkpeefjjabDoor

namespace Go.Proofs.YtmbbigkpeefjjabDoor
open Go.RowKit LedM PolM CoM
/-- A store into a block that is new. -/
theorem AN.past {w0 w : World} {l : List Int} {s t oq : Value} {c : Cs} {ev : Ev} {QB : Nat} {zs zq : List Int} {w1 w2 : World} {cs : List Value} (h : AN w0 w l s t oq c ev QB zs zq w1) {o : Obj} (hb : Blk w1.heap.size 27 cs (w1.alloc o)) (g : (w1.alloc o).grownBy w2 (some w1.heap.size)) (hw : w.heap.size ≤ w1.heap.size) : AN w0 w l s t oq c ev QB zs zq w2 := by
  have h1 := h.later (below_alloc w1 o)
  refine ⟨⟨h1.kd.bb.grown g h1.kd.bb.size (fun x e => by injection e with e; have := h.kd.bb.size; omega), fun k q hq => ⟨(h1.kd.bk k q hq).1, (h1.kd.bk k q hq).2.grown g (fun e => by injection e with e; have := (h.kd.bk k q hq).2.lt; omega)⟩, h.kd.nd⟩, rowV_blk h1.rt hb g int_ne_case, rowV_blk h1.rq hb g int_ne_case, h.ap, gb_new h1.gb g hw⟩
set_option maxRecDepth 20000 in
set_option maxHeartbeats 8000000 in
theorem anew_at (l hs : List Int) (s : Value) (ta : Option Addr) (tn tc : Nat) (c : Cs) (ev : Ev) (w0 w : World) (hl : l.length = 17) (hr : Rd w s (bkL hs)) (hb : hs.length * 8 ≤ 140737488355328) (b0 : Below w0.heap.size w0 w) (ht : RowV 3 w0.heap.size w (.slice ta tn tc) (bkL hs))
    (hq : ∀ hs', good l hs' = true → FQ l c) :
    Calls Tryd.prog 22 #[PV l s, PV l (.slice ta tn tc), prV c c, evV ev] w fun e w' => e = .returned (.bool true) ∧ Below w0.heap.size w0 w' ∧ w.grownBy w' (Value.slice ta tn tc).ownBlock := by
  show Calls _ _ #[.agg (polL l s).toArray, .agg (polL l (.slice ta tn tc)).toArray, .agg (prL c c).toArray, .agg (evL ev).toArray] _ _
  have OW : Hid (∀ w', Below w.heap.size w w' → Calls Tryd.prog 16 #[PV l s] w' (OwnAns l hs w')) := fun w' h => own_at l hs s w' hl (hr.later h) hb
  have SM : Hid (∀ (L : List Int) v v' w', L.length ≤ 1152921504606846976 → Rd w' v (bkL L) → Rd w' v' (bkL L) → Calls Tryd.prog 18 #[v, v'] w' fun e w'' => e = .returned (.bool true) ∧ Below w'.heap.size w' w'') := fun L v v' w' hb h h' => same_at L v v' w' h h' hb
  have ST : Hid (∀ s' w', Rd w' s' (bkL (ir hs.length)) → Calls Tryd.prog 20 #[PV l s', csV c, evV ev] w' (StepAns (stepA l (ir hs.length) c ev) w')) := fun s' w' h => step_at l _ s' c ev w' hl h (by rw [ir_len]; omega)
  have RT : Hid (∀ s' w', Rd w' s' (bkL (ir hs.length)) → Calls Tryd.prog 21 #[PV l s', csV c, evV ev] w' (StepAns (stepA l (ir hs.length) c ev) w')) := fun s' w' h => rstep_at l _ s' c ev w' hl h (by rw [ir_len]; omega) (hq _)
  have SZ : Hid (∀ t : Value, (Tryd.prog.info? 24).map (·.size) = some (polL l t).length) := fun t => by rw [polL_len hl]; exact sizeP
  have FT : Hid (∀ t : Value, 0 + (polL l t).length ≤ polZc.length) := fun t => by rw [polL_len hl]; exact Nat.le_refl 18
  have FZ : Hid (∀ t : Value, polZc.length ≤ 0 + (polL l t).length) := fun t => by rw [polL_len hl]; exact Nat.le_refl 18
  have HO : Hid (∀ s : Value, (polL l s)[17]? = some s) := fun s => polL_hol hl
  have IS : Hid (∀ k, k < hs.length → (bkL (ir k ++ hs.drop k)).set k (.int .i64 (k : Int)) = bkL (ir (k + 1) ++ hs.drop (k + 1))) := ir_step hs
  have IE : Hid (ir hs.length ++ hs.drop hs.length = ir hs.length) := by show _ = _; rw [List.drop_length, List.append_nil]
  have LB : Hid (∀ k, k ≤ hs.length → (bkL (ir k ++ hs.drop k)).length = hs.length) := fun k hk => by rw [bkL_len, List.length_append, ir_len, List.length_drop]; omega
  have LA : Hid ((stepA l (ir hs.length) c ev).2.2.length ≤ 1152921504606846976) := by have := step_len l (ir hs.length) c ev; show _ ≤ _; omega
  have AP : Hid (∀ g, (Value.slice ta tn tc).ownBlock = some g → g < w.heap.size) := fun g hg => ht.block_lt hg
  have hw0 : Hid (w0.heap.size ≤ w.heap.size) := b0.size
  have BB : Hid (Below w.heap.size w ((((w.alloc (.cells (polL l s).toArray 24)).alloc (.cells (polL l (.slice ta tn tc)).toArray 24)).alloc (.cells (prL c c).toArray 29)).alloc (.cells (evL ev).toArray 37))) := below_trans (below_trans (below_trans (below_alloc _ _) (below_alloc _ _)) (below_alloc _ _)) (below_alloc _ _)
  have K0 : Hid (KD w0 [(w.heap.size, 24, polL l s), (w.heap.size + 1, 24, polL l (.slice ta tn tc)), (w.heap.size + 1 + 1, 29, prL c c), (w.heap.size + 1 + 1 + 1, 37, evL ev)] ((((w.alloc (.cells (polL l s).toArray 24)).alloc (.cells (polL l (.slice ta tn tc)).toArray 24)).alloc (.cells (prL c c).toArray 29)).alloc (.cells (evL ev).toArray 37))) := by
    have k0 : KD w0 [] w := ⟨b0, fun k q hq => by simp at hq, fun j k q q' hq => by simp at hq⟩
    have := (((k0.new 24 (polL l s)).new 24 (polL l (.slice ta tn tc))).new 29 (prL c c)).new 37 (evL ev)
    simp only [size_al, List.nil_append, List.cons_append] at this
    exact this
  have HT : Hid (RowV 3 w0.heap.size w (.slice ta tn tc) (bkL hs)) := ht
  obtain ⟨sa, sc, rfl, -, -, -⟩ := hr
  have htn : tn = hs.length := by
    obtain ⟨_, _, q, _⟩ := ht.rd.len
    injection q with _ q _
    rw [q, bkL_len]
  subst htn
  rw [bkL_len] at *
  have hN : hs.length ≤ 17592186044416 := by omega
  have LL : Hid ((bkL hs).length = hs.length) := bkL_len _
  clear hl hb b0 ht hq
  generalize stepA l (ir hs.length) c ev = ans at *
  generalize hs.length = N at *
  go_enter Tryd.func22, Tryd.ntmps22
  go_upto_region 1 with fail
  generalize (((w.alloc (.cells (polL l (.slice sa N sc)).toArray 24)).alloc (.cells (polL l (.slice ta N tc)).toArray 24)).alloc (.cells (prL c c).toArray 29)).alloc (.cells (evL ev).toArray 37) = w1 at *
  go_wp2_with ((with_reducible refine at_loadT 24 ?_); refine step_load rfl 24 _ rfl w.heap.size 0 rfl (polL l (.slice sa N sc)) _ (Blk.all (K0.out.at 0 rfl)) Tryd.underlying24 rfl (SZ.out _) ?_)
  refine (OW.out _ BB.out).mono ?_
  rintro e w2 ⟨qa, qn, qc, rfl, orow, bX⟩
  have K2 : Hid _ := K0.out.call bX
  have B2 : Hid (Below w.heap.size w w2) := below_trans BB.out bX
  have O2 : Hid (RowV 3 w.heap.size w2 (.slice qa qn qc) (bkL hs)) := orow.mono BB.out.size
  obtain rfl : qn = N := by
    obtain ⟨_, _, q, _⟩ := orow.rd.len
    injection q with _ q _
    rw [q, LL.out]
  clear bX orow K0 BB OW
  have NZ : Hid (Blk w2.heap.size 24 polZc (w2.alloc (.cells #[.int .i64 0, .int .i64 0, .int .i64 0, .int .i64 0, .int .i64 0, .int .i64 0, .int .i64 0, .int .i64 0, .int .i64 0, .int .i64 0, .int .i64 0, .int .i64 0, .int .i64 0, .int .i64 0, .int .i64 0, .int .i64 0, .int .i64 0, .slice none 0 0] 24))) := Blk.new _ _ _
  go_upto_region 2 with ((with_reducible refine at_store ?_); refine step_store rfl 24 _ _ rfl w2.heap.size 0 24 polZc (polL l (.slice qa qn qc)) rfl rfl NZ.out (FT.out _) (SZ.out _) polL_oneC ?_; intro w3 nb3 g3)
  have A0 : Hid (AN w0 w l (.slice sa qn sc) (.slice ta qn tc) (.slice qa qn qc) c ev w2.heap.size (ir 0 ++ hs.drop 0) (ir 0 ++ hs.drop 0) w3) := by
    have N3 : Blk w2.heap.size 24 (polL l (.slice qa qn qc)) w3 := blk_whole2 (FZ.out _) nb3
    have k3 := (K2.out.new 24 polZc).store 4 rfl N3 g3
    exact ⟨k3, rowV_blk ((HT.out.later B2.out).later (below_alloc _ _)) NZ.out g3 int_ne_pol, rowV_blk (O2.out.later (below_alloc _ _)) NZ.out g3 int_ne_pol, AP.out, gb_new (gb_later (grownBy_refl w _) (below_trans B2.out (below_alloc _ _))) g3 B2.out.size⟩
  clear nb3 g3 NZ K2 O2 B2 HT AP
  obtain ⟨QB, hQB⟩ : ∃ QB, w2.heap.size = QB := ⟨_, rfl⟩
  rw [hQB] at A0
  rw [hQB]
  clear hQB
  obtain ⟨N, hNq⟩ : ∃ N, qn = N := ⟨_, rfl⟩
  subst hNq
  go_wp2_with fail
  go_loopw [10] (fun v10 wr => ∃ k : Nat, v10 = .int .i64 (k : Int) ∧ k ≤ qn ∧ Hid (AN w0 w l (.slice sa qn sc) (.slice ta qn tc) (.slice qa qn qc) c ev QB (ir k ++ hs.drop k) (ir k ++ hs.drop k) wr)) (fun v10 _ => qn - (intOf v10).toNat)
  case atStart => exact ⟨0, rfl, by omega, A0⟩
  case round =>
    obtain ⟨k, rfl, hk, SR⟩ := hrel
    clear A0
    have c17 : wr.cell? ⟨QB, 17, none⟩ = some (.slice qa qn qc) := SR.out.kd.cell 4 17 rfl _ (HO.out _)
    by_cases hlt : (k : Int) < (qn : Int)
    · have lb := LB.out k hk
      obtain ⟨g, rfl, -, -, hcell⟩ := slice_some SR.out.rt (by rw [lb]; omega)
      obtain ⟨g', rfl, -, -, hcell'⟩ := slice_some SR.out.rq (by rw [lb]; omega)
      have ck' : (wr.cell? ⟨g', k, none⟩).isSome = true := by rw [hcell' k _ (List.getElem?_eq_getElem (by rw [lb]; omega))]; rfl
      obtain ⟨old', hold'⟩ := Option.isSome_iff_exists.1 ck'
      have fk' := SR.out.rq.frz k
      have gl' : g' < wr.heap.size := SR.out.rq.block_lt rfl
      have S1 : Hid (AN w0 w l (.slice sa qn sc) (.slice (some ⟨g, 0, none⟩) qn tc) (.slice (some ⟨g', 0, none⟩) qn qc) c ev QB (ir k ++ hs.drop k) (ir (k + 1) ++ hs.drop (k + 1)) (wr.setCell ⟨g', k, none⟩ (.int .i64 (k : Int)))) := SR.out.stepq (IS.out k (by omega)) hw0.out
      clear SR hcell hcell' ck'
      go_upto_region 6 with fail
      generalize wr.setCell ⟨g', k, none⟩ (.int .i64 (k : Int)) = ws at *
      clear c17 hold' fk' gl'
      obtain ⟨g2, hg2, -, -, hcell⟩ := slice_some S1.out.rt (by rw [lb]; omega)
      obtain rfl : g = g2 := by simpa using hg2
      have ck : (ws.cell? ⟨g, k, none⟩).isSome = true := by rw [hcell k _ (List.getElem?_eq_getElem (by rw [lb]; omega))]; rfl
      obtain ⟨old, hold⟩ := Option.isSome_iff_exists.1 ck
      have fk := S1.out.rt.frz k
      have gl : g < ws.heap.size := S1.out.rt.block_lt rfl
      have t17 : ws.cell? ⟨w.heap.size + 1, 17, none⟩ = some (.slice (some ⟨g, 0, none⟩) qn tc) := S1.out.kd.cell 1 17 rfl _ (HO.out _)
      have S2 : Hid (AN w0 w l (.slice sa qn sc) (.slice (some ⟨g, 0, none⟩) qn tc) (.slice (some ⟨g', 0, none⟩) qn qc) c ev QB (ir (k + 1) ++ hs.drop (k + 1)) (ir (k + 1) ++ hs.drop (k + 1)) (ws.setCell ⟨g, k, none⟩ (.int .i64 (k : Int)))) := S1.out.stept (IS.out k (by omega))
      clear S1 hcell ck lb hg2
      go_wp2_with fail
      go_roundw
      case rel => exact ⟨k + 1, by go_num, by omega, S2⟩
      case measure => simp [intOf]; omega
    · obtain rfl : k = qn := by omega
      rw [IE.out] at SR
      clear IS IE LB hlt hk
      go_wp2_with (first
      | ((with_reducible refine at_loadT 24 ?_); refine step_load rfl 24 _ rfl (w.heap.size + 1) 0 rfl (polL l (.slice ta k tc)) _ (Blk.all (SR.out.kd.at 1 rfl)) Tryd.underlying24 rfl (SZ.out _) ?_)
      | ((with_reducible refine at_loadT 27 ?_); refine step_load rfl 27 _ rfl (w.heap.size + 1 + 1) 0 rfl (csL c) _ (pr_c (SR.out.kd.at 2 rfl)) Tryd.underlying27 rfl (sizeCsL _) ?_)
      | ((with_reducible refine at_loadT 37 ?_); refine step_load rfl 37 _ rfl (w.heap.size + 1 + 1 + 1) 0 rfl (evL ev) _ (Blk.all (SR.out.kd.at 3 rfl)) Tryd.underlying37 rfl (sizeEvL _) ?_))
      refine (ST.out _ _ SR.out.rt.rd).mono ?_
      rintro e w4 ⟨xa, xn, xc, rfl, rrow, bX⟩
      have S30 : Hid (AN w0 w l (.slice sa k sc) (.slice ta k tc) (.slice qa k qc) c ev QB (ir k) (ir k) w4) := SR.out.later bX
      have x0 : Hid (RowV 3 w0.heap.size w4 (.slice xa xn xc) (bkL ans.2.2)) := rrow.mono SR.out.kd.bb.size
      clear bX SR rrow
      have NZ : Hid (Blk w4.heap.size 27 (csL ⟨0, false, 0, 0, 0, 0, 0, 0, 0, 0, 0, 0, 0, 0, 0⟩) (w4.alloc (.cells #[.int .i64 0, .bool false, .int .i64 0, .int .i64 0, .int .i64 0, .int .i64 0, .int .i64 0, .int .i64 0, .int .i64 0, .int .i64 0, .int .i64 0, .int .i64 0, .int .i64 0, .int .i64 0, .int .i64 0] 27))) := Blk.new _ _ _
      go_upto_region 8 with ((with_reducible refine at_store ?_); refine step_store rfl 27 _ _ rfl w4.heap.size 0 27 (csL ⟨0, false, 0, 0, 0, 0, 0, 0, 0, 0, 0, 0, 0, 0, 0⟩) (csL ans.2.1) rfl rfl NZ.out (Nat.le_refl 15) (sizeCsL _) (csL_one _) ?_; intro w5 n9 g9)
      have S3 : Hid (AN w0 w l (.slice sa k sc) (.slice ta k tc) (.slice qa k qc) c ev QB (ir k) (ir k) w5) := S30.out.past NZ.out g9 S30.out.gb.size
      have xr : Hid (RowV 3 w0.heap.size w5 (.slice xa xn xc) (bkL ans.2.2)) := rowV_blk (x0.out.later (below_alloc _ _)) NZ.out g9 int_ne_case
      have xb : Hid (Blk w4.heap.size 27 (csL ans.2.1) w5) := n9
      clear n9 g9 NZ S30 x0
      obtain ⟨xB, hx⟩ : ∃ B, w4.heap.size = B := ⟨_, rfl⟩
      rw [hx] at xb
      rw [hx]
      clear hx
      go_wp2_with (first
      | ((with_reducible refine at_loadT 24 ?_); refine step_load rfl 24 _ rfl (QB) 0 rfl (polL l (.slice qa k qc)) _ (Blk.all (S3.out.kd.at 4 rfl)) Tryd.underlying24 rfl (SZ.out _) ?_)
      | ((with_reducible refine at_loadT 27 ?_); refine step_load rfl 27 _ rfl (w.heap.size + 1 + 1) 15 rfl (csL c) _ (pr_r (S3.out.kd.at 2 rfl)) Tryd.underlying27 rfl (sizeCsL _) ?_)
      | ((with_reducible refine at_loadT 37 ?_); refine step_load rfl 37 _ rfl (w.heap.size + 1 + 1 + 1) 0 rfl (evL ev) _ (Blk.all (S3.out.kd.at 3 rfl)) Tryd.underlying37 rfl (sizeEvL _) ?_))
      refine (RT.out _ _ S3.out.rq.rd).mono ?_
      rintro e w6 ⟨ya, yn, yc, rfl, rrow, bX⟩
      have S40 : Hid (AN w0 w l (.slice sa k sc) (.slice ta k tc) (.slice qa k qc) c ev QB (ir k) (ir k) w6) := S3.out.later bX
      have y0 : Hid (RowV 3 w0.heap.size w6 (.slice ya yn yc) (bkL ans.2.2)) := rrow.mono S3.out.kd.bb.size
      have xr0 : Hid (RowV 3 w0.heap.size w6 (.slice xa xn xc) (bkL ans.2.2)) := xr.out.later bX
      have xb0 : Hid (Blk xB 27 (csL ans.2.1) w6) := xb.out.below bX
      have xlt := xb0.out.lt
      clear xr xb
      clear bX S3 rrow
      have NZ : Hid (Blk w6.heap.size 27 (csL ⟨0, false, 0, 0, 0, 0, 0, 0, 0, 0, 0, 0, 0, 0, 0⟩) (w6.alloc (.cells #[.int .i64 0, .bool false, .int .i64 0, .int .i64 0, .int .i64 0, .int .i64 0, .int .i64 0, .int .i64 0, .int .i64 0, .int .i64 0, .int .i64 0, .int .i64 0, .int .i64 0, .int .i64 0, .int .i64 0] 27))) := Blk.new _ _ _
      go_upto_region 9 with ((with_reducible refine at_store ?_); refine step_store rfl 27 _ _ rfl w6.heap.size 0 27 (csL ⟨0, false, 0, 0, 0, 0, 0, 0, 0, 0, 0, 0, 0, 0, 0⟩) (csL ans.2.1) rfl rfl NZ.out (Nat.le_refl 15) (sizeCsL _) (csL_one _) ?_; intro w7 n9 g9)
      have S4 : Hid (AN w0 w l (.slice sa k sc) (.slice ta k tc) (.slice qa k qc) c ev QB (ir k) (ir k) w7) := S40.out.past NZ.out g9 S40.out.gb.size
      have yr : Hid (RowV 3 w0.heap.size w7 (.slice ya yn yc) (bkL ans.2.2)) := rowV_blk (y0.out.later (below_alloc _ _)) NZ.out g9 int_ne_case
      have yb : Hid (Blk w6.heap.size 27 (csL ans.2.1) w7) := n9
      have xr : Hid (RowV 3 w0.heap.size w7 (.slice xa xn xc) (bkL ans.2.2)) := rowV_blk (xr0.out.later (below_alloc _ _)) NZ.out g9 int_ne_case
      have xb : Hid (Blk xB 27 (csL ans.2.1) w7) := (xb0.out.below (below_alloc _ _)).grown g9 (fun e => by injection e with e; omega)
      clear xr0 xb0 xlt
      clear n9 g9 NZ S40 y0
      obtain ⟨yB, hy⟩ : ∃ B, w6.heap.size = B := ⟨_, rfl⟩
      rw [hy] at yb
      rw [hy]
      clear hy
      have EQ := cs_eql ans.2.1
      go_wp2_with (first
      | ((with_reducible refine at_loadT 27 ?_); refine step_load rfl 27 _ rfl xB 0 rfl (csL ans.2.1) _ (Blk.all xb.out) Tryd.underlying27 rfl (sizeCsL _) ?_)
      | ((with_reducible refine at_loadT 27 ?_); refine step_load rfl 27 _ rfl yB 0 rfl (csL ans.2.1) _ (Blk.all yb.out) Tryd.underlying27 rfl (sizeCsL _) ?_))
      refine (SM.out ans.2.2 _ _ _ LA.out xr.out.rd yr.out.rd).mono ?_
      rintro e w9 ⟨rfl, bX⟩
      have S9 : Hid (AN w0 w l (.slice sa k sc) (.slice ta k tc) (.slice qa k qc) c ev QB (ir k) (ir k) w9) := S4.out.later bX
      clear bX S4
      go_wp2_with fail
      go_ret
      exact ⟨rfl, S9.out.kd.bb, S9.out.gb⟩
end Go.Proofs.YtmbbigkpeefjjabDoor
