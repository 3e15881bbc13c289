/-
  Ours: the document's Reverse.
-/
import Derived.Test.YtacdnigeboeleaaDoorLedStill
namespace Go.Proofs.YtacdnigeboeleaaDoor
open Go.RowKit LedM

namespace LedM
theorem rev_drop {es : List Ent} {k : Nat} (h : k < es.length) : revE (es.drop k) = revE (es.drop (k + 1)) ++ [swapE (eN es k)] := by
  rw [drop_eN h]; simp [revE]
end LedM
set_option maxRecDepth 20000 in
set_option maxHeartbeats 1000000 in
theorem rrev_at (es : List Ent) (v : Value) (w : World) (hl : es.length ≤ 100000000) (h : RdE w v es) : Calls Tryd.prog 12 #[v] w fun e w' => ∃ v', e = .returned v' ∧ RowE w.heap.size w' v' (revE es) ∧ Below w.heap.size w w' := by
  have RD : Hid (∀ w', Below w.heap.size w w' → RdE w' v es) := fun w' hb => h.later hb
  obtain ⟨ao, cap, rfl, hcap, hno, _⟩ := h
  obtain ⟨L, hL⟩ : ∃ L, es.length = L := ⟨_, rfl⟩
  have HL : Hid (es.length = L) := hL
  have CE : Hid (∀ w', Below w.heap.size w w' → ∀ i, i < L → ∃ g o, ao = some ⟨g, o, none⟩ ∧ w'.rangeAt g (o + i * 3) (entL (eN es i))) := fun w' hb i hi => by
    obtain ⟨ao', cap', e, _, _, H⟩ := RD.out w' hb
    injection e with e1 e2 e3
    subst e1
    obtain ⟨g, o, e, _, r⟩ := H i (by omega)
    exact ⟨g, o, e, r⟩
  have RT : Hid (∀ k, k < L → revE (es.drop k) = revE (es.drop (k + 1)) ++ [swapE (eN es k)] ∧ (revE (es.drop (k + 1))).length + 1 ≤ 1000000000000) := fun k hk => ⟨rev_drop (by omega), by rw [revE_len, List.length_drop]; omega⟩
  have Z : Hid (revE (es.drop L) = [] ∧ revE (es.drop 0) = revE es) := ⟨by rw [List.drop_eq_nil_of_le (by omega)]; rfl, rfl⟩
  rw [hL] at hcap hl ⊢
  clear RD hL
  go_enter Tryd.func12, Tryd.ntmps12
  go_wp2_with fail
  go_loopw [3, 4, 5] (fun v i _ wr => ∃ t : Nat, t ≤ L ∧ i = .int .i64 ((t : Int) - 1) ∧ RowE w.heap.size wr v (revE (es.drop t)) ∧ Below w.heap.size w wr) (fun _ i _ _ => (intOf i + 1).toNat)
  case atStart => exact ⟨L, by omega, by go_num, by rw [Z.out.1]; exact RowE.nil _ _, Below.refl _ _⟩
  case round =>
    obtain ⟨t, ht, rfl, hown, hb⟩ := hrel
    by_cases htl : 0 < t
    · obtain ⟨k, rfl⟩ : ∃ k', t = k' + 1 := ⟨t - 1, by omega⟩
      have ek : ((k + 1 : Nat) : Int) - 1 = (k : Int) := by omega
      rw [ek]
      have hkl : (k : Int) < (L : Int) := by omega
      obtain ⟨g, o, rfl, rg⟩ := CE.out wr hb k (by omega)
      obtain ⟨rt1, rt2⟩ := RT.out k (by omega)
      have RG : Hid (wr.rangeAt g (o + k * 3) (entL (eN es k))) := rg
      have RT1 : Hid (revE (es.drop k) = revE (es.drop (k + 1)) ++ [swapE (eN es k)]) := rt1
      have RT2 : Hid ((revE (es.drop (k + 1))).length + [swapE (eN es k)].length ≤ 1000000000000) := rt2
      have NE : Hid (Blk wr.heap.size 41 (entL zE) (wr.alloc (.cells #[.int .i64 0, .int .i64 0, .int .i64 0] 41))) := Blk.new 41 (entL zE) wr
      have OW : Hid (RowE w.heap.size (wr.alloc (.cells #[.int .i64 0, .int .i64 0, .int .i64 0] 41)) u3 (revE (es.drop (k + 1))) ∧ (∀ g', u3.ownBlock = some g' → g' < wr.heap.size)) := ⟨hown.later (below_alloc wr _), fun g' hg => hown.lt hg⟩
      have BB : Hid (Below w.heap.size w (wr.alloc (.cells #[.int .i64 0, .int .i64 0, .int .i64 0] 41)) ∧ w.heap.size ≤ wr.heap.size) := ⟨hb.alloc hb.size _, hb.size⟩
      generalize eN es k = x at *
      obtain ⟨xd, xc, xa⟩ := x
      clear rg rt1 rt2 hown hb CE RT
      have hel : ∀ e : Ent, (entL e).length = 3 := fun _ => rfl
      go_wp2_with (first
        | (refine step_load rfl 41 _ rfl g (o + k * 3) rfl (entL ⟨xd, xc, xa⟩) _ RG.out Tryd.underlying41 rfl (infoE _) ?_)
        | (refine step_store rfl 41 _ _ rfl wr.heap.size 0 41 (entL zE) (entL ⟨xd, xc, xa⟩) rfl rfl NE.out (Nat.le_refl _) (infoE _) (oneE _) ?_; intro w3 nb3 g3; have n3 : Blk wr.heap.size 41 (entL ⟨xd, xc, xa⟩) w3 := nb3; have c0 := n3.cell 0 _ rfl; have c1 := n3.cell 1 _ rfl; have c2 := n3.cell 2 _ rfl; have B3 : Hid (Below w.heap.size w w3) := below_row BB.out.1 g3 BB.out.2; have R3 : Hid (RowE w.heap.size (w3.alloc (.cells (entL (swapE ⟨xd, xc, xa⟩)).toArray 41)) u3 (revE (es.drop (k + 1)))) := (OW.out.1.kept g3 (fun g' hg e => by cases e; have := OW.out.2 _ hg; omega)).later (below_alloc w3 _); clear nb3 n3 g3 NE)
        | (at_builtin; refine wpList_catE rfl (.tmp 17) (.tmp 25) rfl w.heap.size u3 (.slice (some ⟨w3.heap.size, 0, none⟩) 1 1) (revE (es.drop (k + 1))) [swapE ⟨xd, xc, xa⟩] rfl R3.out (by have := B3.out.size; simp; omega) rfl (RdE.one w3 (swapE ⟨xd, xc, xa⟩)) RT2.out ?_; intro v5 w5 r5 g5))
      go_roundw
      case rel =>
        refine ⟨k, by omega, by go_num, by rw [RT1.out]; exact r5, ?_⟩
        have b := B3.out.alloc B3.out.size (.cells (entL (swapE ⟨xd, xc, xa⟩)).toArray 41)
        exact b.grown g5 b.size (fun g' hg => R3.out.ge hg)
      case measure => simp [intOf]
    · obtain rfl : t = 0 := by omega
      have RR : Hid (RowE w.heap.size wr u3 (revE es) ∧ Below w.heap.size w wr) := ⟨by rw [← Z.out.2]; exact hown, hb⟩
      have ez : ((0 : Nat) : Int) - 1 = -1 := rfl
      rw [ez]
      clear ez hown hb CE RT htl
      go_wp2_with fail
      go_ret
      exact ⟨_, rfl, RR.out.1, RR.out.2⟩
end Go.Proofs.YtacdnigeboeleaaDoor
