/-
  Ours: the walk of LedgerTotals.
-/
import Derived.Test.YtacdnigeboeleaaDoorLedRTot
import Derived.Test.YtacdnigeboeleaaDoorLedBkO
import Derived.Test.YtacdnigeboeleaaDoorLedSameP
import Derived.Deep.CutRange
import Derived.Deep.RegionHeld
import Derived.BigRegion
namespace Go.Proofs.YtacdnigeboeleaaDoor
open Go.RowKit LedM

abbrev lastL : List Int := [0, 0, 0, 0, 0, -77, 0, 0, 0, 0, 0, 0]
theorem lastOk : BkOk lastL := ⟨rfl, fun k => by
  by_cases hk : k < 12
  · have : k = 0 ∨ k = 1 ∨ k = 2 ∨ k = 3 ∨ k = 4 ∨ k = 5 ∨ k = 6 ∨ k = 7 ∨ k = 8 ∨ k = 9 ∨ k = 10 ∨ k = 11 := by omega
    rcases this with e | e | e | e | e | e | e | e | e | e | e | e <;> subst e <;> exact ⟨by decide, by decide⟩
  · rw [List.getD_eq_getElem?_getD, List.getElem?_eq_none (by simp; omega)]; exact ⟨by decide, by decide⟩⟩
/-- What the statement's walk keeps: the list with one book more, its own; three books. -/
structure TtS (w : World) (v : Value) (bs : List (List Int)) (g cap n : Nat) (cs : List (List Int)) (ks : List (Nat × TypeId × List Value)) (w' : World) : Prop where
  kb : KB w ks w'
  row : RowBk w.heap.size w' (.slice (some ⟨g, 0, none⟩) (n + 1) cap) (cs ++ [lastL])
  rd : RdBk w' v bs
  ne : ∀ q ∈ ks, q.1 ≠ g
theorem TtS.call {w w1 w2 : World} {v : Value} {bs cs : List (List Int)} {g cap n : Nat} {ks : List (Nat × TypeId × List Value)} (h : TtS w v bs g cap n cs ks w1) (b : Below w1.heap.size w1 w2) : TtS w v bs g cap n cs ks w2 := ⟨h.kb.call b, h.row.later b, h.rd.later b, h.ne⟩
theorem TtS.drewN {w w1 : World} {v : Value} {bs cs : List (List Int)} {g cap n : Nat} {ks : List (Nat × TypeId × List Value)} (h : TtS w v bs g cap n cs ks w1) (m : Nat) : TtS w v bs g cap n cs ks (w1.drewN m) := h.call (below_drewN (Below.refl _ _) m)
theorem TtS.put {w w1 w2 : World} {v : Value} {bs cs : List (List Int)} {g cap n : Nat} {ks : List (Nat × TypeId × List Value)} (h : TtS w v bs g cap n cs ks w1) (o : Obj) {T : TypeId} {xs : List Value} (nb : Blk w1.heap.size T xs w2) (gr : (w1.alloc o).grownBy w2 (some w1.heap.size)) : TtS w v bs g cap n cs ((w1.heap.size, T, xs) :: ks) w2 := by
  have hb := below_alloc w1 o
  have hg := h.row.lt (g := g) rfl
  have h1 := h.call hb
  refine ⟨h.kb.put o nb gr, h1.row.kept gr (fun g' e => by cases e; simp; omega), ?_, fun q hq => ?_⟩
  · obtain ⟨ao, c, e, a1, a2, a3⟩ := h.rd
    refine ⟨ao, c, e, a1, a2, fun i hi => ?_⟩
    obtain ⟨g', o', e', lt, r⟩ := a3 i hi
    refine ⟨g', o', e', Nat.lt_of_lt_of_le lt (Nat.le_trans hb.size gr.size), fun j u hj => ?_⟩
    have c1 := (hb.cell (p := ⟨g', o' + i * 12 + j, none⟩) lt).trans (r j u hj)
    rw [← c1]
    exact World.cell?_of_block (gr.block g' (Nat.lt_of_lt_of_le lt hb.size) (fun e => by cases e; omega))
  · rcases List.mem_cons.1 hq with rfl | hq
    · simp only; omega
    · exact h.ne q hq

theorem TtS.giv {w w1 : World} {v : Value} {bs cs : List (List Int)} {g cap n : Nat} {ks : List (Nat × TypeId × List Value)} (h : TtS w v bs g cap n cs ks w1) (tw : Tw cs) (hl : cs.length = n) : RdBk w1 (.slice (some ⟨g, 0, none⟩) n cap) cs := by
  have h1 := RdBk.take (h.row.rd (Tw.app tw (fun b hb => by simp at hb; subst hb; rfl))) (k := n) (by omega)
  rwa [List.take_append_of_le_length (by omega), List.take_of_length_le (by omega)] at h1
theorem RdBk.range {w : World} {a : Option Addr} {n c : Nat} {bs : List (List Int)} (h : RdBk w (.slice a n c) bs) {i : Nat} (hi : i < bs.length) : ∃ g o, a = some ⟨g, o, none⟩ ∧ w.rangeAt g (o + i * 12) (bkL (bN bs i)) := by
  obtain ⟨ao, cap, e, _, _, H⟩ := h
  injection e with e1 _ _
  obtain ⟨g, o, e, _, r⟩ := H i hi
  exact ⟨g, o, e1.trans e, r⟩
theorem TtS.grange {w w1 : World} {v : Value} {bs cs : List (List Int)} {g cap n : Nat} {ks : List (Nat × TypeId × List Value)} (h : TtS w v bs g cap n cs ks w1) (tw : Tw cs) (hl : cs.length = n) {i : Nat} (hi : i < n) : w1.rangeAt g (i * 12) (bkL (bN cs i)) := by
  obtain ⟨g', o', e, r⟩ := RdBk.range (h.giv tw hl) (i := i) (by omega)
  cases e
  rwa [Nat.zero_add] at r
theorem TtS.lrange {w w1 : World} {v : Value} {bs cs : List (List Int)} {g cap n : Nat} {ks : List (Nat × TypeId × List Value)} (h : TtS w v bs g cap n cs ks w1) (tw : Tw cs) (hl : cs.length = n) : w1.rangeAt g (n * 12) (bkL lastL) := by
  obtain ⟨g', o', e, r⟩ := RdBk.range (h.row.rd (Tw.app tw (fun b hb => by simp at hb; subst hb; rfl))) (i := n) (by simp; omega)
  cases e
  rw [Nat.zero_add, show bN (cs ++ [lastL]) n = lastL from by subst hl; simp [bN]] at r
  exact r
theorem TtS.brange {w w1 : World} {bs cs : List (List Int)} {g cap n m c gb ob : Nat} {ks : List (Nat × TypeId × List Value)} (h : TtS w (.slice (some ⟨gb, ob, none⟩) m c) bs g cap n cs ks w1) {i : Nat} (hi : i < bs.length) : w1.rangeAt gb (ob + i * 12) (bkL (bN bs i)) := by
  obtain ⟨g', o', e, r⟩ := RdBk.range h.rd (i := i) hi
  cases e
  exact r
namespace LedM
/-- A book with one number halved. -/
def halfB (k : Nat) (b : List Int) : List Int := b.set (k % 12) ((b.getD (k % 12) 0).tdiv 2)
def hv (bs : List (List Int)) : Nat → List (List Int)
  | 0 => bs
  | k + 1 => (hv bs k).set k (halfB k (bN (hv bs k) k))
theorem hv_len (bs : List (List Int)) : ∀ k, (hv bs k).length = bs.length
  | 0 => rfl
  | k + 1 => by unfold hv; rw [List.length_set]; exact hv_len bs k
theorem half_ok {k : Nat} {b : List Int} (h : BkOk b) : BkOk (halfB k b) := by
  unfold halfB
  refine ⟨by rw [List.length_set]; exact h.1, fun j => ?_⟩
  rw [List.getD_eq_getElem?_getD, List.getElem?_set]
  split
  · split
    · have := h.2 (k % 12)
      unfold i64 at this ⊢
      simp only [Option.getD_some]
      rw [Int.tdiv_eq_ediv]
      split
      · omega
      · have : Int.sign 2 = 1 := rfl
        omega
    · exact ⟨by simp, by simp⟩
  · rw [← List.getD_eq_getElem?_getD]; exact h.2 j
theorem hv_ok {bs : List (List Int)} (h : ∀ b ∈ bs, BkOk b) : ∀ k, ∀ b ∈ hv bs k, BkOk b
  | 0, b, hb => h b hb
  | k + 1, b, hb => by
    unfold hv at hb
    by_cases hk : k < (hv bs k).length
    · rcases List.mem_or_eq_of_mem_set hb with hb | hb
      · exact hv_ok h k b hb
      · rw [hb]
        have hm : bN (hv bs k) k ∈ hv bs k := by rw [bN_at hk]; exact List.getElem_mem hk
        exact half_ok (hv_ok h k _ hm)
    · rw [List.set_eq_of_length_le (by omega)] at hb
      exact hv_ok h k b hb
theorem hv_take {bs : List (List Int)} {k : Nat} (h : k < bs.length) : (hv bs (k + 1)).take (k + 1) = (hv bs k).take k ++ [bN (hv bs (k + 1)) k] := by
  rw [take_bN (by rw [hv_len]; exact h)]
  congr 1
  have e : hv bs (k + 1) = (hv bs k).set k (halfB k (bN (hv bs k) k)) := rfl
  rw [e, List.take_set_of_le (Nat.le_refl _)]
end LedM
structure Tt2 (w : World) (g cap n B : Nat) (cs : List (List Int)) (ks : List (Nat × TypeId × List Value)) (u : Value) (os : List (List Int)) (w' : World) : Prop where
  kb : KB w ks w'
  row : RowBk w.heap.size w' (.slice (some ⟨g, 0, none⟩) (n + 1) cap) (cs ++ [lastL])
  ne : ∀ q ∈ ks, q.1 ≠ g ∧ q.1 < B
  oth : RowBk B w' u os
  gB : g < B ∧ B ≤ w'.heap.size
theorem Tt2.call {w w1 w2 : World} {g cap n B : Nat} {cs os : List (List Int)} {ks : List (Nat × TypeId × List Value)} {u : Value} (h : Tt2 w g cap n B cs ks u os w1) (b : Below w1.heap.size w1 w2) : Tt2 w g cap n B cs ks u os w2 := ⟨h.kb.call b, h.row.later b, h.ne, h.oth.later b, ⟨h.gB.1, Nat.le_trans h.gB.2 b.size⟩⟩
theorem Tt2.set {w w1 : World} {g cap n B : Nat} {cs os : List (List Int)} {ks : List (Nat × TypeId × List Value)} {u : Value} (h : Tt2 w g cap n B cs ks u os w1) (tw : Tw cs) (hl : cs.length = n) {k j : Nat} (hk : k < n) (hj : j < 12) (x : Int) : Tt2 w g cap n B (cs.set k ((bN cs k).set j x)) ks u os (w1.setCell ⟨g, k * 12 + j, none⟩ (.int .i64 x)) := by
  have gr := setCell_grown w1 g (k * 12 + j) (.int .i64 x)
  have hg := h.row.ge (g := g) rfl
  have r := h.row.set (Tw.app tw (fun b hb => by simp at hb; subst hb; rfl)) (k := k) (j := j) x (by simp; omega) hj
  rw [List.set_append_left _ _ (by omega), show bN (cs ++ [lastL]) k = bN cs k from by unfold bN; rw [List.getD_eq_getElem?_getD, List.getElem?_append_left (by omega), List.getD_eq_getElem?_getD]] at r
  refine ⟨⟨h.kb.bb.grown gr h.kb.bb.size (fun q e => by cases e; exact hg), fun q hq => ⟨(h.kb.bk q hq).1, (h.kb.bk q hq).2.grown gr (by have := (h.ne q hq).1; simp; omega)⟩⟩, r, h.ne, h.oth.kept gr (fun q hq e => by cases e; have := h.oth.ge hq; have := h.gB.1; omega), ⟨h.gB.1, Nat.le_trans h.gB.2 gr.size⟩⟩
theorem Tt2.cat {w w1 w2 : World} {g cap n B : Nat} {cs os os' : List (List Int)} {ks : List (Nat × TypeId × List Value)} {u u' : Value} (h : Tt2 w g cap n B cs ks u os w1) (r : RowBk B w2 u' os') (gr : w1.grownBy w2 u.ownBlock) : Tt2 w g cap n B cs ks u' os' w2 := by
  have nr : ∀ q, u.ownBlock = some q → B ≤ q := fun q e => h.oth.ge e
  refine ⟨⟨h.kb.bb.grown gr h.kb.bb.size (fun q e => by have := nr q e; have := h.gB.1; have := h.row.ge (g := g) rfl; omega), fun q hq => ⟨(h.kb.bk q hq).1, (h.kb.bk q hq).2.grown gr (fun e => by have := nr _ e; have := (h.ne q hq).2; omega)⟩⟩, h.row.kept gr (fun q e e' => by have e2 : g = q := Option.some.inj e; have := nr q e'; have := h.gB.1; omega), h.ne, r, ⟨h.gB.1, Nat.le_trans h.gB.2 gr.size⟩⟩
theorem Tt2.grange {w w1 : World} {g cap n B : Nat} {cs os : List (List Int)} {ks : List (Nat × TypeId × List Value)} {u : Value} (h : Tt2 w g cap n B cs ks u os w1) (tw : Tw cs) (hl : cs.length = n) {i : Nat} (hi : i < n) : w1.rangeAt g (i * 12) (bkL (bN cs i)) := by
  obtain ⟨g', o', e, r⟩ := RdBk.range (h.row.rd (Tw.app tw (fun b hb => by simp at hb; subst hb; rfl))) (i := i) (by simp; omega)
  cases e
  rw [Nat.zero_add, show bN (cs ++ [lastL]) i = bN cs i from by unfold bN; rw [List.getD_eq_getElem?_getD, List.getElem?_append_left (by omega), List.getD_eq_getElem?_getD]] at r
  exact r
theorem Tt2.giv {w w1 : World} {g cap n B : Nat} {cs os : List (List Int)} {ks : List (Nat × TypeId × List Value)} {u : Value} (h : Tt2 w g cap n B cs ks u os w1) (tw : Tw cs) (hl : cs.length = n) : RdBk w1 (.slice (some ⟨g, 0, none⟩) n cap) cs := by
  have h1 := RdBk.take (h.row.rd (Tw.app tw (fun b hb => by simp at hb; subst hb; rfl))) (k := n) (by omega)
  rwa [List.take_append_of_le_length (by omega), List.take_of_length_le (by omega)] at h1
theorem Tt2.fz {w w1 : World} {g cap n B : Nat} {cs os : List (List Int)} {ks : List (Nat × TypeId × List Value)} {u : Value} (h : Tt2 w g cap n B cs ks u os w1) (j : Nat) : w1.frozen? ⟨g, j, none⟩ = false := by
  obtain ⟨g', c', e8, _, _, _, fz⟩ := RowBk.form h.row (by simp)
  injection e8 with e1 _ _
  injection e1 with e1
  injection e1 with e1 _ _
  subst e1
  exact fz j
theorem totsStart {w w1 w3 : World} {v v1 : Value} {bs : List (List Int)} {g cap n : Nat} {o : Obj} (r1 : RowBk w.heap.size w1 v1 bs) (b1 : Below w.heap.size w w1) (rd : RdBk w v bs) (r3 : RowBk w.heap.size w3 (.slice (some ⟨g, 0, none⟩) (n + 1) cap) (bs ++ [lastL]))
    (g3 : ((w1.alloc (.cells (bkL lastL).toArray 25)).alloc o).grownBy w3 v1.ownBlock) (ft : v1.ownBlock = some g ∨ g = ((w1.alloc (.cells (bkL lastL).toArray 25)).alloc o).heap.size) : TtS w v bs g cap n bs [(w1.heap.size, 25, bkL lastL)] w3 := by
  have hb : Below w1.heap.size w1 ((w1.alloc (.cells (bkL lastL).toArray 25)).alloc o) := (below_alloc w1 _).alloc (by simp) _
  have B3 : Below w.heap.size w w3 := (below_trans b1 hb).grown g3 (below_trans b1 hb).size (fun q e => r1.ge e)
  refine ⟨⟨B3, fun q hq => ?_⟩, r3, rd.later B3, fun q hq => ?_⟩
  · simp only [List.mem_singleton] at hq
    subst hq
    exact ⟨b1.size, ((Blk.new 25 (bkL lastL) w1).old o).grown g3 (fun e => by have := r1.lt e; omega)⟩
  · simp only [List.mem_singleton] at hq
    subst hq
    rcases ft with e | e
    · have := r1.lt e; simp only; omega
    · rw [e]; simp; omega

set_option maxRecDepth 20000 in
set_option maxHeartbeats 8000000 in
theorem totals_any (bs : List (List Int)) (v : Value) (w : World) (hr : RdBk w v bs) (ok : ∀ b ∈ bs, BkOk b) (hn : bs.length ≤ 1048576) :
    Calls Tryd.prog 10 #[v] w fun e w' => e = .returned (.bool true) ∧ Below w.heap.size w w' := by
  have TW : Hid (Tw bs) := fun b hb => (ok b hb).1
  have TO : Hid (∀ cs, (∀ b ∈ cs, BkOk b) → cs.length ≤ 1048576 → ∀ w' v', RdBk w' v' cs → Calls Tryd.prog 31 #[v'] w' fun e w2 => e = .returned (.tuple #[.agg (bkL (bookL (sumB cs))).toArray, .bool (fitsL (sumB cs))]) ∧ Below w'.heap.size w' w2) := fun cs hc hl w' v' h => total_at cs v' w' h hc (by omega)
  have RT : Hid (∀ cs, (∀ b ∈ cs, BkOk b) → cs.length ≤ 1048576 → ∀ w' v', RdBk w' v' cs → Calls Tryd.prog 32 #[v'] w' fun e w2 => e = .returned (.tuple #[.agg (bkL (bookL (sumB cs))).toArray, .bool (fitsL (sumB cs))]) ∧ Below w'.heap.size w' w2) := fun cs hc hl w' v' h => rtotal_at cs v' w' h hc (by omega)
  have SM : Hid (∀ (l : List Int) w', l.length = 12 → Calls Tryd.prog 18 #[.agg (bkL l).toArray, .agg (bkL l).toArray] w' fun e w2 => e = .returned (.bool true) ∧ Below w'.heap.size w' w2) := fun l w' h => by have := same_at l l w' h h; rwa [decide_eq_true rfl] at this
  have M12 : Hid ((bookL (sumB bs)).length = 12) := by
    show _ = _
    unfold bookL
    split
    · exact sumB_len bs
    · rfl
  have TO1 : Hid (∀ w' v', RdBk w' v' bs → Calls Tryd.prog 31 #[v'] w' fun e w2 => e = .returned (.tuple #[.agg (bkL (bookL (sumB bs))).toArray, .bool (fitsL (sumB bs))]) ∧ Below w'.heap.size w' w2) := fun w' v' h => TO.out bs ok hn w' v' h
  have RT1 : Hid (∀ w' v', RdBk w' v' bs → Calls Tryd.prog 32 #[v'] w' fun e w2 => e = .returned (.tuple #[.agg (bkL (bookL (sumB bs))).toArray, .bool (fitsL (sumB bs))]) ∧ Below w'.heap.size w' w2) := fun w' v' h => RT.out bs ok hn w' v' h
  generalize bookL (sumB bs) = M at *
  generalize fitsL (sumB bs) = fb at *
  have RD : Hid (RdBk w v bs) := hr
  have OKB : Hid (∀ b ∈ bs, BkOk b) := ok
  obtain ⟨ao, cap0, rfl, -, -, -⟩ := hr
  obtain ⟨n, hn'⟩ : ∃ n, bs.length = n := ⟨_, rfl⟩
  have HN : Hid (bs.length = n) := hn'
  rw [hn'] at hn RD ⊢
  clear ok hn'
  go_enter Tryd.func10, Tryd.ntmps10
  go_wp2_with (first
    | (at_builtin; refine wpList_catB rfl (.tmp 13) (.tmp 14) rfl w.heap.size (.slice none 0 0) (.slice ao n cap0) [] bs TW.out rfl (RowBk.nil _ _) (Nat.le_refl _) rfl RD.out (by have := HN.out; simp; omega) ?_; intro v1 w1 r1 g1; have R1 : Hid (RowBk w.heap.size w1 v1 bs ∧ Below w.heap.size w w1) := ⟨r1, below_none g1⟩; clear r1 g1)
    | (at_builtin; refine wpList_catOldB rfl (.tmp 19) (.tmp 21) rfl w.heap.size v1 (.slice (some ⟨w1.heap.size + 1, 0, none⟩) 1 1) bs [lastL] (fun b hb => by simp at hb; subst hb; rfl) rfl (RowBk.later R1.out.1 ((below_alloc w1 _).alloc (by simp) _)) (Nat.le_trans R1.out.2.size ((below_alloc w1 _).alloc (by simp) _).size) rfl (by have h := RdBk.one (w1.alloc (.cells #[.int .i64 0, .int .i64 0, .int .i64 0, .int .i64 0, .int .i64 0, .int .i64 (-77), .int .i64 0, .int .i64 0, .int .i64 0, .int .i64 0, .int .i64 0, .int .i64 0] 25)) lastL; rw [show (w1.alloc (.cells #[.int .i64 0, .int .i64 0, .int .i64 0, .int .i64 0, .int .i64 0, .int .i64 (-77), .int .i64 0, .int .i64 0, .int .i64 0, .int .i64 0, .int .i64 0, .int .i64 0] 25)).heap.size = w1.heap.size + 1 from by simp] at h; exact h) (by have := HN.out; simp; omega) (by simp) ?_; intro g cap w3 r3 g3 ft; rw [HN.out, List.length_singleton] at r3 ⊢; have hcp : n + 1 ≤ cap := (by obtain ⟨_, _, e8, h8, -⟩ := r3.rd (Tw.app TW.out (fun b hb => by simp at hb; subst hb; rfl)); injection e8 with _ _ e8; have h9 : bs.length = n := HN.out; rw [List.length_append, h9, List.length_singleton] at h8; omega); have T3 : Hid (TtS w (.slice ao n cap0) bs g cap n bs [(w1.heap.size, 25, bkL lastL)] w3) := totsStart R1.out.1 R1.out.2 RD.out r3 g3 ft; clear r3 g3 ft R1))
  refine (TO1.out _ _ (T3.out.giv TW.out HN.out)).mono ?_
  rintro e w4 ⟨rfl, b4⟩
  have T4 : Hid (TtS w (.slice ao n cap0) bs g cap n bs [(w1.heap.size, 25, bkL lastL)] w4) := T3.out.call b4
  have Z4 : Hid (Blk w4.heap.size 25 (bkL zeroL) (w4.alloc z12o)) := Blk.new 25 (bkL zeroL) w4
  clear T3 b4 TO1
  go_wp2_with (refine step_store rfl 25 _ _ rfl w4.heap.size 0 25 (bkL zeroL) (bkL M) rfl rfl Z4.out (by rw [bkL_len, M12.out]; exact Nat.le_refl _) (infoBl M12.out) (bkL_one _) ?_; intro w5 nb5 g5; rw [store_all (by rw [bkL_len, M12.out]; rfl)] at nb5; have T5 : Hid (TtS w (.slice ao n cap0) bs g cap n bs [(w4.heap.size, 25, bkL M), (w1.heap.size, 25, bkL lastL)] w5) := T4.out.put _ nb5 g5; clear nb5 g5 T4 Z4)
  refine (RT1.out _ _ T5.out.rd).mono ?_
  rintro e w6 ⟨rfl, b6⟩
  have T6 : Hid (TtS w (.slice ao n cap0) bs g cap n bs [(w4.heap.size, 25, bkL M), (w1.heap.size, 25, bkL lastL)] w6) := T5.out.call b6
  have Z6 : Hid (Blk w6.heap.size 25 (bkL zeroL) (w6.alloc z12o)) := Blk.new 25 (bkL zeroL) w6
  have L46 : Hid (w4.heap.size ≠ w6.heap.size) := Nat.ne_of_lt (T6.out.kb.at 0 rfl).lt
  clear T5 b6 RT1
  go_wp2_with (refine step_store rfl 25 _ _ rfl w6.heap.size 0 25 (bkL zeroL) (bkL M) rfl rfl Z6.out (by rw [bkL_len, M12.out]; exact Nat.le_refl _) (infoBl M12.out) (bkL_one _) ?_; intro w7 nb7 g7; rw [store_all (by rw [bkL_len, M12.out]; rfl)] at nb7; have T7 : Hid (TtS w (.slice ao n cap0) bs g cap n bs [(w6.heap.size, 25, bkL M), (w4.heap.size, 25, bkL M), (w1.heap.size, 25, bkL lastL)] w7) := T6.out.put _ nb7 g7; clear nb7 g7 T6 Z6)
  go_loopw [10] (fun vk wr => ∃ k : Nat, vk = .int .i64 (k : Int) ∧ k ≤ n ∧ TtS w (.slice ao n cap0) bs g cap n bs [(w6.heap.size, 25, bkL M), (w4.heap.size, 25, bkL M), (w1.heap.size, 25, bkL lastL)] wr) (fun vk _ => n - (intOf vk).toNat)
  case atStart => exact ⟨0, rfl, by omega, T7.out⟩
  case round =>
    clear T7
    obtain ⟨k, rfl, hk, tt⟩ := hrel
    have TX : Hid (TtS w (.slice ao n cap0) bs g cap n bs [(w6.heap.size, 25, bkL M), (w4.heap.size, 25, bkL M), (w1.heap.size, 25, bkL lastL)] wr) := tt
    clear tt
    by_cases hlt : (k : Int) < (n : Int)
    · have hkn : k < n := by omega
      obtain ⟨gb, ob, rfl, -⟩ := RdBk.range TX.out.rd (i := k) (by rw [HN.out]; exact hkn)
      have k0 : (0 : Int) ≤ (k : Int) := by omega
      go_wp2_with fail
      refine wp_region_held_drew (S := fun w' => TtS w (.slice (some ⟨gb, ob, none⟩) n cap0) bs g cap n bs [(w6.heap.size, 25, bkL M), (w4.heap.size, 25, bkL M), (w1.heap.size, 25, bkL lastL)] w') (by kernel_rfl) (TX.out.drewN 1) (fun hH => ?_)
      refine wpAnyH_take (i := 0) (oi := { dst := some 43, op := Op.move (Operand.tmp 5), type := 38, pos := "law.go:100", after := #[], guard := none }) (v := .slice (some ⟨g, 0, none⟩) n cap) rfl (by kernel_rfl) (by kernel_rfl) (by kernel_rfl) (fun _ _ _ h => h) (Or.inl ⟨by rfl, fun w' hs => by go_simp⟩) hH ?_
      simp only [Act.put, List.setIfInBounds_toArray, List.set_cons_zero, List.set_cons_succ]
      refine wpAnyH_take (i := 1) (oi := { dst := some 44, op := Op.move (Operand.tmp 10), type := 3, pos := "law.go:100", after := #[], guard := none }) (v := .int .i64 (k : Int)) rfl (by kernel_rfl) (by kernel_rfl) (by kernel_rfl) (fun _ _ _ h => h) (Or.inl ⟨by rfl, fun w' hs => by go_simp⟩) hH ?_
      simp only [Act.put, List.setIfInBounds_toArray, List.set_cons_zero, List.set_cons_succ]
      refine wpAnyH_take (i := 2) (oi := { dst := some 45, op := Op.indexAddr 38 (Operand.tmp 43) (Operand.tmp 44), type := 0, pos := "law.go:100", after := #[{ on := 0, ground := Ground.data }, { on := 1, ground := Ground.data }], guard := none }) (v := .pointer (some ⟨g, k * 12, none⟩)) rfl (by kernel_rfl) (by kernel_rfl) (by kernel_rfl) (fun _ _ _ h => h) (Or.inl ⟨by rfl, fun w' hs => by go_simp⟩) hH ?_
      simp only [Act.put, List.setIfInBounds_toArray, List.set_cons_zero, List.set_cons_succ]
      refine' wpAnyH_take (i := 3) (oi := { dst := some 46, op := Op.load 25 (Operand.tmp 45), type := 25, pos := "law.go:100", after := #[{ on := 2, ground := Ground.data }], guard := none }) (v := _) rfl (by kernel_rfl) (by kernel_rfl) (by kernel_rfl) (fun _ _ _ h => h) (yieldsIf_load_mid (by rfl) _ _ rfl _ _ rfl (bkL (bN bs k)) _ (fun w' h => h.grange TW.out HN.out hkn) Tryd.underlying25 rfl (infoBl (bN_len TW.out k (by rw [HN.out]; exact hkn)))) hH ?_
      simp only [Act.put, List.setIfInBounds_toArray, List.set_cons_zero, List.set_cons_succ]
      refine wpAnyH_take (i := 4) (oi := { dst := some 47, op := Op.move (Operand.tmp 0), type := 38, pos := "law.go:100", after := #[], guard := none }) (v := .slice (some ⟨gb, ob, none⟩) n cap0) rfl (by kernel_rfl) (by kernel_rfl) (by kernel_rfl) (fun _ _ _ h => h) (Or.inl ⟨by rfl, fun w' hs => by go_simp⟩) hH ?_
      simp only [Act.put, List.setIfInBounds_toArray, List.set_cons_zero, List.set_cons_succ]
      refine wpAnyH_take (i := 5) (oi := { dst := some 48, op := Op.move (Operand.tmp 10), type := 3, pos := "law.go:100", after := #[], guard := none }) (v := .int .i64 (k : Int)) rfl (by kernel_rfl) (by kernel_rfl) (by kernel_rfl) (fun _ _ _ h => h) (Or.inl ⟨by rfl, fun w' hs => by go_simp⟩) hH ?_
      simp only [Act.put, List.setIfInBounds_toArray, List.set_cons_zero, List.set_cons_succ]
      refine wpAnyH_take (i := 6) (oi := { dst := some 49, op := Op.indexAddr 38 (Operand.tmp 47) (Operand.tmp 48), type := 0, pos := "law.go:100", after := #[{ on := 4, ground := Ground.data }, { on := 5, ground := Ground.data }], guard := none }) (v := .pointer (some ⟨gb, ob + k * 12, none⟩)) rfl (by kernel_rfl) (by kernel_rfl) (by kernel_rfl) (fun _ _ _ h => h) (Or.inl ⟨by rfl, fun w' hs => by go_simp⟩) hH ?_
      simp only [Act.put, List.setIfInBounds_toArray, List.set_cons_zero, List.set_cons_succ]
      refine' wpAnyH_take (i := 7) (oi := { dst := some 50, op := Op.load 25 (Operand.tmp 49), type := 25, pos := "law.go:100", after := #[{ on := 6, ground := Ground.data }], guard := none }) (v := _) rfl (by kernel_rfl) (by kernel_rfl) (by kernel_rfl) (fun _ _ _ h => h) (yieldsIf_load_mid (by rfl) _ _ rfl _ _ rfl (bkL (bN bs k)) _ (fun w' h => h.brange (by rw [HN.out]; exact hkn)) Tryd.underlying25 rfl (infoBl (bN_len TW.out k (by rw [HN.out]; exact hkn)))) hH ?_
      simp only [Act.put, List.setIfInBounds_toArray, List.set_cons_zero, List.set_cons_succ]
      refine wpAnyH_ready (rs := [8]) (by kernel_rfl) (by simp) ?_
      refine AllReadyH.cons (o := { dst := some 51, op := Op.call { callee := Callee.value (Operand.func 18), args := #[Operand.tmp 46, Operand.tmp 50], argTypes := #[25, 25] }, type := 4, pos := "law.go:100", after := #[{ on := 3, ground := Ground.data }, { on := 7, ground := Ground.data }], guard := none }) rfl (fun K hK => ?_) AllReadyH.nil
      go_simp
      refine (SM.out (bN bs k) _ (bN_len TW.out k (by rw [HN.out]; exact hkn))).mono ?_
      rintro e wa ⟨rfl, ba⟩
      refine hK.out _ _ (hH.call ba) (fun hH => ?_)
      refine wpAnyH_take (i := 9) (oi := { dst := some 52, op := Op.unOp UnOp.not 4 (Operand.tmp 51), type := 4, pos := "law.go:100", after := #[{ on := 8, ground := Ground.data }], guard := none }) (v := .bool false) rfl (by kernel_rfl) (by kernel_rfl) (by kernel_rfl) (fun _ _ _ h => h) (Or.inl ⟨by rfl, fun w' hs => by go_simp⟩) hH ?_
      simp only [Act.put, List.setIfInBounds_toArray, List.set_cons_zero, List.set_cons_succ]
      refine wpAnyH_done (by kernel_rfl) ?_ _
      have T9 : Hid (TtS w (.slice (some ⟨gb, ob, none⟩) n cap0) bs g cap n bs [(w6.heap.size, 25, bkL M), (w4.heap.size, 25, bkL M), (w1.heap.size, 25, bkL lastL)] wa) := hH
      clear hH hK TX
      go_wp2_with fail
      first
        | exact ⟨⟨k + 1, by go_num, by omega, T9.out⟩, by simp [intOf]; omega⟩
        | (go_roundw
           case rel => exact ⟨k + 1, by go_num, by omega, T9.out⟩
           case measure => simp [intOf]; omega)
    · obtain rfl : n = k := by omega
      have nn : (n : Int) < (n : Int) + 1 := by omega
      have n0 : (0 : Int) ≤ (n : Int) := by omega
      have eb : (fb != fb) = false := by simp
      go_wp2_with fail
      refine wp_region_held_drew (S := fun w' => TtS w (.slice ao n cap0) bs g cap n bs [(w6.heap.size, 25, bkL M), (w4.heap.size, 25, bkL M), (w1.heap.size, 25, bkL lastL)] w') (by kernel_rfl) (TX.out.drewN 1) (fun hH => ?_)
      refine' wpAnyH_take (i := 0) (oi := { dst := some 53, op := Op.load 25 (Operand.tmp 6), type := 25, pos := "law.go:104", after := #[], guard := none }) (v := _) rfl (by kernel_rfl) (by kernel_rfl) (by kernel_rfl) (fun _ _ _ h => h) (yieldsIf_load_mid (by rfl) _ _ rfl _ _ rfl (bkL M) _ (fun w' h => (h.kb.at 1 rfl).all) Tryd.underlying25 rfl (infoBl M12.out)) hH ?_
      simp only [Act.put, List.setIfInBounds_toArray, List.set_cons_zero, List.set_cons_succ]
      refine' wpAnyH_take (i := 1) (oi := { dst := some 54, op := Op.load 25 (Operand.tmp 8), type := 25, pos := "law.go:104", after := #[], guard := none }) (v := _) rfl (by kernel_rfl) (by kernel_rfl) (by kernel_rfl) (fun _ _ _ h => h) (yieldsIf_load_mid (by rfl) _ _ rfl _ _ rfl (bkL M) _ (fun w' h => (h.kb.at 0 rfl).all) Tryd.underlying25 rfl (infoBl M12.out)) hH ?_
      simp only [Act.put, List.setIfInBounds_toArray, List.set_cons_zero, List.set_cons_succ]
      refine wpAnyH_ready (rs := [2]) (by kernel_rfl) (by simp) ?_
      refine AllReadyH.cons (o := { dst := some 55, op := Op.call { callee := Callee.value (Operand.func 18), args := #[Operand.tmp 53, Operand.tmp 54], argTypes := #[25, 25] }, type := 4, pos := "law.go:104", after := #[{ on := 0, ground := Ground.data }, { on := 1, ground := Ground.data }], guard := none }) rfl (fun K hK => ?_) AllReadyH.nil
      go_simp
      refine (SM.out M _ M12.out).mono ?_
      rintro e wa ⟨rfl, ba⟩
      refine hK.out _ _ (hH.call ba) (fun hH => ?_)
      refine wpAnyH_take (i := 3) (oi := { dst := some 56, op := Op.unOp UnOp.not 4 (Operand.tmp 55), type := 4, pos := "law.go:104", after := #[{ on := 2, ground := Ground.data }], guard := none }) (v := .bool false) rfl (by kernel_rfl) (by kernel_rfl) (by kernel_rfl) (fun _ _ _ h => h) (Or.inl ⟨by rfl, fun w' hs => by go_simp⟩) hH ?_
      simp only [Act.put, List.setIfInBounds_toArray, List.set_cons_zero, List.set_cons_succ]
      refine wpAnyH_take (i := 4) (oi := { dst := some 57, op := Op.move (Operand.tmp 56), type := 4, pos := "law.go:104", after := #[{ on := 3, ground := Ground.data }, { on := 2, ground := Ground.chain }], guard := none }) (v := .bool false) rfl (by kernel_rfl) (by kernel_rfl) (by kernel_rfl) (fun _ _ _ h => h) (Or.inl ⟨by rfl, fun w' hs => by go_simp⟩) hH ?_
      simp only [Act.put, List.setIfInBounds_toArray, List.set_cons_zero, List.set_cons_succ]
      refine wpAnyH_take (i := 5) (oi := { dst := some 58, op := Op.move (Operand.tmp 7), type := 4, pos := "law.go:104", after := #[{ on := 4, ground := Ground.guard }], guard := some (4, false) }) (v := .bool fb) rfl (by kernel_rfl) (by kernel_rfl) (by kernel_rfl) (fun _ _ _ h => h) (Or.inl ⟨by rfl, fun w' hs => by go_simp⟩) hH ?_
      simp only [Act.put, List.setIfInBounds_toArray, List.set_cons_zero, List.set_cons_succ]
      refine wpAnyH_take (i := 6) (oi := { dst := some 59, op := Op.move (Operand.tmp 9), type := 4, pos := "law.go:104", after := #[{ on := 4, ground := Ground.guard }], guard := some (4, false) }) (v := .bool fb) rfl (by kernel_rfl) (by kernel_rfl) (by kernel_rfl) (fun _ _ _ h => h) (Or.inl ⟨by rfl, fun w' hs => by go_simp⟩) hH ?_
      simp only [Act.put, List.setIfInBounds_toArray, List.set_cons_zero, List.set_cons_succ]
      refine wpAnyH_take (i := 7) (oi := { dst := some 60, op := Op.binOp BinOp.neq 4 (Operand.tmp 58) (Operand.tmp 59) 4, type := 4, pos := "law.go:104", after := #[{ on := 5, ground := Ground.data }, { on := 6, ground := Ground.data }, { on := 4, ground := Ground.guard }], guard := some (4, false) }) (v := .bool false) rfl (by kernel_rfl) (by kernel_rfl) (by kernel_rfl) (fun _ _ _ h => h) (Or.inl ⟨by rfl, fun w' hs => by go_simp⟩) hH ?_
      simp only [Act.put, List.setIfInBounds_toArray, List.set_cons_zero, List.set_cons_succ]
      refine wpAnyH_take (i := 8) (oi := { dst := some 61, op := Op.pick (Operand.tmp 57) (Operand.const (Value.bool true)) (Operand.tmp 60), type := 4, pos := "law.go:104", after := #[{ on := 4, ground := Ground.data }, { on := 7, ground := Ground.data }], guard := none }) (v := .bool false) rfl (by kernel_rfl) (by kernel_rfl) (by kernel_rfl) (fun _ _ _ h => h) (Or.inl ⟨by rfl, fun w' hs => by go_simp⟩) hH ?_
      simp only [Act.put, List.setIfInBounds_toArray, List.set_cons_zero, List.set_cons_succ]
      refine wpAnyH_take (i := 9) (oi := { dst := some 62, op := Op.move (Operand.tmp 61), type := 4, pos := "law.go:104", after := #[{ on := 8, ground := Ground.data }, { on := 4, ground := Ground.chain }], guard := none }) (v := .bool false) rfl (by kernel_rfl) (by kernel_rfl) (by kernel_rfl) (fun _ _ _ h => h) (Or.inl ⟨by rfl, fun w' hs => by go_simp⟩) hH ?_
      simp only [Act.put, List.setIfInBounds_toArray, List.set_cons_zero, List.set_cons_succ]
      refine wpAnyH_take (i := 10) (oi := { dst := some 63, op := Op.move (Operand.tmp 3), type := 38, pos := "law.go:104", after := #[{ on := 9, ground := Ground.guard }], guard := some (9, false) }) (v := .slice (some ⟨g, 0, none⟩) (n + 1) cap) rfl (by kernel_rfl) (by kernel_rfl) (by kernel_rfl) (fun _ _ _ h => h) (Or.inl ⟨by rfl, fun w' hs => by go_simp⟩) hH ?_
      simp only [Act.put, List.setIfInBounds_toArray, List.set_cons_zero, List.set_cons_succ]
      refine wpAnyH_take (i := 11) (oi := { dst := some 64, op := Op.move (Operand.tmp 0), type := 38, pos := "law.go:104", after := #[{ on := 9, ground := Ground.guard }], guard := some (9, false) }) (v := .slice ao n cap0) rfl (by kernel_rfl) (by kernel_rfl) (by kernel_rfl) (fun _ _ _ h => h) (Or.inl ⟨by rfl, fun w' hs => by go_simp⟩) hH ?_
      simp only [Act.put, List.setIfInBounds_toArray, List.set_cons_zero, List.set_cons_succ]
      refine wpAnyH_take (i := 12) (oi := { dst := some 65, op := Op.call { callee := Callee.builtin Builtin.len, args := #[Operand.tmp 64], argTypes := #[38] }, type := 3, pos := "law.go:104", after := #[{ on := 11, ground := Ground.data }, { on := 9, ground := Ground.guard }], guard := some (9, false) }) (v := .int .i64 (n : Int)) rfl (by kernel_rfl) (by kernel_rfl) (by kernel_rfl) (fun _ _ _ h => h) (Or.inl ⟨by rfl, fun w' hs => by go_simp⟩) hH ?_
      simp only [Act.put, List.setIfInBounds_toArray, List.set_cons_zero, List.set_cons_succ]
      refine wpAnyH_take (i := 13) (oi := { dst := some 66, op := Op.indexAddr 38 (Operand.tmp 63) (Operand.tmp 65), type := 0, pos := "law.go:104", after := #[{ on := 10, ground := Ground.data }, { on := 12, ground := Ground.data }, { on := 9, ground := Ground.guard }], guard := some (9, false) }) (v := .pointer (some ⟨g, n * 12, none⟩)) rfl (by kernel_rfl) (by kernel_rfl) (by kernel_rfl) (fun _ _ _ h => h) (Or.inl ⟨by rfl, fun w' hs => by go_simp⟩) hH ?_
      simp only [Act.put, List.setIfInBounds_toArray, List.set_cons_zero, List.set_cons_succ]
      refine' wpAnyH_take (i := 14) (oi := { dst := some 67, op := Op.load 25 (Operand.tmp 66), type := 25, pos := "law.go:104", after := #[{ on := 13, ground := Ground.data }, { on := 9, ground := Ground.guard }], guard := some (9, false) }) (v := _) rfl (by kernel_rfl) (by kernel_rfl) (by kernel_rfl) (fun _ _ _ h => h) (yieldsIf_load_mid (by rfl) _ _ rfl _ _ rfl (bkL lastL) _ (fun w' h => h.lrange TW.out HN.out) Tryd.underlying25 rfl (infoBl rfl)) hH ?_
      simp only [Act.put, List.setIfInBounds_toArray, List.set_cons_zero, List.set_cons_succ]
      refine' wpAnyH_take (i := 15) (oi := { dst := some 68, op := Op.load 25 (Operand.tmp 4), type := 25, pos := "law.go:104", after := #[{ on := 9, ground := Ground.guard }], guard := some (9, false) }) (v := _) rfl (by kernel_rfl) (by kernel_rfl) (by kernel_rfl) (fun _ _ _ h => h) (yieldsIf_load_mid (by rfl) _ _ rfl _ _ rfl (bkL lastL) _ (fun w' h => (h.kb.at 2 rfl).all) Tryd.underlying25 rfl (infoBl rfl)) hH ?_
      simp only [Act.put, List.setIfInBounds_toArray, List.set_cons_zero, List.set_cons_succ]
      refine wpAnyH_ready (rs := [16]) (by kernel_rfl) (by simp) ?_
      refine AllReadyH.cons (o := { dst := some 69, op := Op.call { callee := Callee.value (Operand.func 18), args := #[Operand.tmp 67, Operand.tmp 68], argTypes := #[25, 25] }, type := 4, pos := "law.go:104", after := #[{ on := 14, ground := Ground.data }, { on := 15, ground := Ground.data }, { on := 9, ground := Ground.chain }, { on := 9, ground := Ground.guard }], guard := some (9, false) }) rfl (fun K hK => ?_) AllReadyH.nil
      go_simp
      refine (SM.out lastL _ rfl).mono ?_
      rintro e wb ⟨rfl, bb⟩
      refine hK.out _ _ (hH.call bb) (fun hH => ?_)
      refine wpAnyH_take (i := 17) (oi := { dst := some 70, op := Op.unOp UnOp.not 4 (Operand.tmp 69), type := 4, pos := "law.go:104", after := #[{ on := 16, ground := Ground.data }, { on := 9, ground := Ground.guard }], guard := some (9, false) }) (v := .bool false) rfl (by kernel_rfl) (by kernel_rfl) (by kernel_rfl) (fun _ _ _ h => h) (Or.inl ⟨by rfl, fun w' hs => by go_simp⟩) hH ?_
      simp only [Act.put, List.setIfInBounds_toArray, List.set_cons_zero, List.set_cons_succ]
      refine wpAnyH_take (i := 18) (oi := { dst := some 71, op := Op.pick (Operand.tmp 62) (Operand.const (Value.bool true)) (Operand.tmp 70), type := 4, pos := "law.go:104", after := #[{ on := 9, ground := Ground.data }, { on := 17, ground := Ground.data }], guard := none }) (v := .bool false) rfl (by kernel_rfl) (by kernel_rfl) (by kernel_rfl) (fun _ _ _ h => h) (Or.inl ⟨by rfl, fun w' hs => by go_simp⟩) hH ?_
      simp only [Act.put, List.setIfInBounds_toArray, List.set_cons_zero, List.set_cons_succ]
      refine wpAnyH_done (by kernel_rfl) ?_ _
      have T14 : Hid (TtS w (.slice ao n cap0) bs g cap n bs [(w6.heap.size, 25, bkL M), (w4.heap.size, 25, bkL M), (w1.heap.size, 25, bkL lastL)] wb) := hH
      clear hH hK TX
      go_wp2_with fail
      obtain ⟨W, hW⟩ : ∃ y, y = wb := ⟨_, rfl⟩
      subst hW
      have U0 : Hid (Tt2 w g cap n W.heap.size (hv bs 0) [(w6.heap.size, 25, bkL M), (w4.heap.size, 25, bkL M), (w1.heap.size, 25, bkL lastL)] (.slice none 0 0) ((hv bs 0).take 0) W) := ⟨T14.out.kb, T14.out.row, fun q hq => ⟨T14.out.ne q hq, (T14.out.kb.bk q hq).2.lt⟩, RowBk.nil _ _, ⟨T14.out.row.lt (g := g) rfl, Nat.le_refl _⟩⟩
      clear T14 eb
      go_loopw [11, 12] (fun vo vk wr => ∃ k : Nat, vk = .int .i64 (k : Int) ∧ k ≤ n ∧ Tt2 w g cap n W.heap.size (hv bs k) [(w6.heap.size, 25, bkL M), (w4.heap.size, 25, bkL M), (w1.heap.size, 25, bkL lastL)] vo ((hv bs k).take k) wr) (fun _ vk _ => n - (intOf vk).toNat)
      case atStart => exact ⟨0, rfl, by omega, U0.out⟩
      case round =>
        clear U0
        obtain ⟨k, rfl, hk, uu⟩ := hrel
        have UX : Hid (Tt2 w g cap n W.heap.size (hv bs k) [(w6.heap.size, 25, bkL M), (w4.heap.size, 25, bkL M), (w1.heap.size, 25, bkL lastL)] u11 ((hv bs k).take k) wr) := uu
        clear uu
        have HK : Hid ((hv bs k).length = n ∧ Tw (hv bs k)) := ⟨(hv_len bs k).trans HN.out, fun b hb => (hv_ok OKB.out k b hb).1⟩
        by_cases hlt : (k : Int) < (n : Int)
        · have hkn : k < n := by omega
          have k0 : (0 : Int) ≤ (k : Int) := by omega
          obtain ⟨m, hm⟩ : ∃ m, k % 12 = m := ⟨_, rfl⟩
          have hm12 : m < 12 := by omega
          have km : (k : Int).tmod 12 = (m : Int) := by rw [← hm]; exact Int.ofNat_tmod k 12
          have gr := UX.out.grange HK.out.2 HK.out.1 hkn
          have c0 := gr m _ (bkL_at (by rw [bN_len HK.out.2 k (by rw [HK.out.1]; exact hkn)]; exact hm12))
          have fz := UX.out.fz (k * 12 + m)
          have xb := (hv_ok OKB.out k (bN (hv bs k) k) (by rw [bN_at (by rw [HK.out.1]; exact hkn)]; exact List.getElem_mem _)).2 m
          unfold i64 at xb
          have N2 : Hid (Tt2 w g cap n W.heap.size (hv bs (k + 1)) [(w6.heap.size, 25, bkL M), (w4.heap.size, 25, bkL M), (w1.heap.size, 25, bkL lastL)] u11 ((hv bs k).take k) ((wr.setCell ⟨g, k * 12 + m, none⟩ (.int .i64 (((bN (hv bs k) k).getD m 0).tdiv 2))).drew)) := by
            have h := UX.out.set HK.out.2 HK.out.1 hkn hm12 (((bN (hv bs k) k).getD m 0).tdiv 2)
            have e : (hv bs k).set k ((bN (hv bs k) k).set m (((bN (hv bs k) k).getD m 0).tdiv 2)) = hv bs (k + 1) := by rw [← hm]; rfl
            rw [e] at h
            exact h.call (below_drewN (Below.refl _ _) 1)
          have HT : Hid ((hv bs (k + 1)).take (k + 1) = (hv bs k).take k ++ [bN (hv bs (k + 1)) k]) := hv_take (by rw [HN.out]; exact hkn)
          have HK2 : Hid ((hv bs (k + 1)).length = n ∧ Tw (hv bs (k + 1))) := ⟨(hv_len bs (k + 1)).trans HN.out, fun b hb => (hv_ok OKB.out (k + 1) b hb).1⟩
          have ln : Hid (((hv bs k).take k).length ≤ 1048576) := by show _ ≤ _; rw [List.length_take]; omega
          generalize (bN (hv bs k) k).getD m 0 = x at *
          clear gr UX HK hm
          go_wp2_with fail
          go_region
          generalize (wr.setCell ⟨g, k * 12 + m, none⟩ (.int .i64 (x.tdiv 2))).drew = w2 at *
          have b12 : Hid ((bN (hv bs (k + 1)) k).length = 12) := bN_len HK2.out.2 k (by rw [HK2.out.1]; exact hkn)
          have RG : Hid (w2.rangeAt g (k * 12) (bkL (bN (hv bs (k + 1)) k))) := N2.out.grange HK2.out.2 HK2.out.1 hkn
          have ON : Hid (RdBk (w2.alloc (.cells (bkL (bN (hv bs (k + 1)) k)).toArray 25)) (.slice (some ⟨w2.heap.size, 0, none⟩) 1 1) [bN (hv bs (k + 1)) k]) := RdBk.one w2 _
          have N3 : Hid (Tt2 w g cap n W.heap.size (hv bs (k + 1)) [(w6.heap.size, 25, bkL M), (w4.heap.size, 25, bkL M), (w1.heap.size, 25, bkL lastL)] u11 ((hv bs k).take k) (w2.alloc (.cells (bkL (bN (hv bs (k + 1)) k)).toArray 25))) := N2.out.call (below_alloc w2 _)
          clear N2 c0 fz
          generalize hbq : bN (hv bs (k + 1)) k = bq at *
          clear hbq
          have ex : ∃ b0 b1 b2 b3 b4 b5 b6 b7 b8 b9 b10 b11, bq = [b0, b1, b2, b3, b4, b5, b6, b7, b8, b9, b10, b11] := by
            match bq, b12.out with
            | [b0, b1, b2, b3, b4, b5, b6, b7, b8, b9, b10, b11], _ => exact ⟨_, _, _, _, _, _, _, _, _, _, _, _, rfl⟩
          obtain ⟨b0, b1, b2, b3, b4, b5, b6, b7, b8, b9, b10, b11, rfl⟩ := ex
          go_wp2_with (first
            | (refine step_load rfl 25 _ rfl g (k * 12) rfl [.int .i64 b0, .int .i64 b1, .int .i64 b2, .int .i64 b3, .int .i64 b4, .int .i64 b5, .int .i64 b6, .int .i64 b7, .int .i64 b8, .int .i64 b9, .int .i64 b10, .int .i64 b11] _ RG.out Tryd.underlying25 rfl (infoBl (l := [b0, b1, b2, b3, b4, b5, b6, b7, b8, b9, b10, b11]) rfl) ?_)
            | (at_builtin; refine wpList_catB rfl (.tmp 94) (.tmp 99) rfl W.heap.size u11 (.slice (some ⟨w2.heap.size, 0, none⟩) 1 1) ((hv bs k).take k) [[b0, b1, b2, b3, b4, b5, b6, b7, b8, b9, b10, b11]] (fun b hb => by simp at hb; subst hb; rfl) rfl N3.out.oth N3.out.gB.2 rfl ON.out (by have := ln.out; simp; omega) ?_; intro v9 w9 r9 g9))
          have N9 : Hid (Tt2 w g cap n W.heap.size (hv bs (k + 1)) [(w6.heap.size, 25, bkL M), (w4.heap.size, 25, bkL M), (w1.heap.size, 25, bkL lastL)] v9 ((hv bs (k + 1)).take (k + 1)) w9) := by
            have h := N3.out.cat r9 g9
            rw [← HT.out] at h
            exact h
          clear N3 r9 g9 RG ON
          first
            | exact ⟨⟨k + 1, by go_num, by omega, N9.out⟩, by simp [intOf]; omega⟩
            | (go_roundw
               case rel => exact ⟨k + 1, by go_num, by omega, N9.out⟩
               case measure => simp [intOf]; omega)
        · obtain rfl : n = k := by omega
          have OK2 := hv_ok OKB.out n
          have M2L : (bookL (sumB (hv bs n))).length = 12 := by
            unfold bookL
            split
            · exact sumB_len _
            · rfl
          have P1 := TO.out (hv bs n) OK2 (by rw [HK.out.1]; exact hn) wr _ (UX.out.giv HK.out.2 HK.out.1)
          have P1 : Hid (Calls _ _ _ _ _) := P1
          have e2 : (hv bs n).take n = hv bs n := List.take_of_length_le (by rw [HK.out.1]; exact Nat.le_refl _)
          have ot := UX.out.oth
          rw [e2] at ot
          have P2 : Hid (∀ w', RdBk w' u11 (hv bs n) → Calls Tryd.prog 32 #[u11] w' fun e w2 => e = .returned (.tuple #[.agg (bkL (bookL (sumB (hv bs n)))).toArray, .bool (fitsL (sumB (hv bs n)))]) ∧ Below w'.heap.size w' w2) := fun w' h => RT.out (hv bs n) OK2 (by rw [HK.out.1]; exact hn) w' u11 h
          have OT : Hid (RowBk W.heap.size wr u11 (hv bs n) ∧ Tw (hv bs n)) := ⟨ot, HK.out.2⟩
          have KB3 : Hid (KB w [(w6.heap.size, 25, bkL M), (w4.heap.size, 25, bkL M), (w1.heap.size, 25, bkL lastL)] wr ∧ w4.heap.size < W.heap.size ∧ w6.heap.size < W.heap.size) := ⟨UX.out.kb, (UX.out.ne _ (List.mem_cons_of_mem _ (List.mem_cons_self ..))).2, (UX.out.ne _ (List.mem_cons_self ..)).2⟩
          have M212 : Hid ((bookL (sumB (hv bs n))).length = 12) := M2L
          clear UX HK OK2 M2L ot e2
          generalize bookL (sumB (hv bs n)) = M2 at *
          generalize fitsL (sumB (hv bs n)) = fb2 at *
          generalize hv bs n = HV at *
          have eb2 : (fb2 == fb2) = true := by simp
          clear TO RT TW OKB
          go_wp2_with fail
          refine P1.out.mono ?_
          rintro e wA ⟨rfl, bA⟩
          have KA : Hid (Blk w4.heap.size 25 (bkL M) wA ∧ Blk w6.heap.size 25 (bkL M) wA ∧ RowBk W.heap.size wA u11 HV ∧ Below w.heap.size w wA ∧ w.heap.size ≤ w4.heap.size ∧ w.heap.size ≤ w6.heap.size) := ⟨(KB3.out.1.at 1 rfl).below bA, (KB3.out.1.at 0 rfl).below bA, OT.out.1.later bA, below_trans KB3.out.1.bb bA, (KB3.out.1.bk _ (List.mem_cons_of_mem _ (List.mem_cons_self ..))).1, (KB3.out.1.bk _ (List.mem_cons_self ..)).1⟩
          clear P1 bA
          go_wp2_with (refine step_store rfl 25 _ _ rfl w4.heap.size 0 25 (bkL M) (bkL M2) rfl rfl KA.out.1 (by rw [bkL_len, bkL_len, M12.out, M212.out]; exact Nat.le_refl _) (infoBl M212.out) (bkL_one _) ?_; intro wB nbB gB; rw [store_all (by rw [bkL_len, bkL_len, M12.out, M212.out])] at nbB; have KBB : Hid (Blk w4.heap.size 25 (bkL M2) wB ∧ Blk w6.heap.size 25 (bkL M) wB ∧ RowBk W.heap.size wB u11 HV ∧ Below w.heap.size w wB ∧ w.heap.size ≤ w6.heap.size) := ⟨nbB, KA.out.2.1.grown gB (fun e => L46.out (Option.some.inj e)), KA.out.2.2.1.kept gB (fun q hq e => by have h1 := KA.out.2.2.1.ge hq; have h2 := KB3.out.2.1; have h3 : w4.heap.size = q := Option.some.inj e; omega), below_row KA.out.2.2.2.1 gB KA.out.2.2.2.2.1, KA.out.2.2.2.2.2⟩; clear nbB gB KA)
          refine (P2.out _ (KBB.out.2.2.1.rd OT.out.2)).mono ?_
          rintro e wC ⟨rfl, bC⟩
          have KC : Hid (Blk w4.heap.size 25 (bkL M2) wC ∧ Blk w6.heap.size 25 (bkL M) wC ∧ Below w.heap.size w wC ∧ w.heap.size ≤ w6.heap.size) := ⟨KBB.out.1.below bC, KBB.out.2.1.below bC, below_trans KBB.out.2.2.2.1 bC, KBB.out.2.2.2.2⟩
          clear P2 bC KBB
          go_wp2_with (first
            | (refine step_store rfl 25 _ _ rfl w6.heap.size 0 25 (bkL M) (bkL M2) rfl rfl KC.out.2.1 (by rw [bkL_len, bkL_len, M12.out, M212.out]; exact Nat.le_refl _) (infoBl M212.out) (bkL_one _) ?_; intro wD nbD gD; rw [store_all (by rw [bkL_len, bkL_len, M12.out, M212.out])] at nbD; have KD : Hid (Blk w4.heap.size 25 (bkL M2) wD ∧ Blk w6.heap.size 25 (bkL M2) wD ∧ Below w.heap.size w wD) := ⟨KC.out.1.grown gD (fun e => L46.out (Option.some.inj e).symm), nbD, below_row KC.out.2.2.1 gD KC.out.2.2.2⟩; clear nbD gD KC)
            | (refine step_load rfl 25 _ rfl w4.heap.size 0 rfl (bkL M2) _ KD.out.1.all Tryd.underlying25 rfl (infoBl M212.out) ?_)
            | (refine step_load rfl 25 _ rfl w6.heap.size 0 rfl (bkL M2) _ KD.out.2.1.all Tryd.underlying25 rfl (infoBl M212.out) ?_))
          refine (SM.out M2 _ M212.out).mono ?_
          rintro e wE ⟨rfl, bE⟩
          have KE : Hid (Below w.heap.size w wE) := below_trans KD.out.2.2 bE
          clear bE KD
          go_wp2_with fail
          go_ret
          exact ⟨rfl, KE.out⟩
end Go.Proofs.YtacdnigeboeleaaDoor
