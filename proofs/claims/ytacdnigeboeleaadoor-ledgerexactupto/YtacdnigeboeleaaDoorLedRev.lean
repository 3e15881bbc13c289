/-
  Ours: Reverse; two lists of entries alike.
-/
import Derived.Test.YtacdnigeboeleaaDoorLedCat
import Derived.Deep.QuietTactic
import Derived.BigQuiet
namespace Go.Proofs.YtacdnigeboeleaaDoor
open Go.RowKit LedM

namespace LedM
def swapE (e : Ent) : Ent := ⟨e.c, e.d, e.a⟩
def revE (es : List Ent) : List Ent := (es.map swapE).reverse
theorem revE_len (es : List Ent) : (revE es).length = es.length := by simp [revE]
theorem revE_revE (es : List Ent) : revE (revE es) = es := by
  unfold revE
  rw [List.map_reverse, List.reverse_reverse, List.map_map]
  have : swapE ∘ swapE = id := by funext e; rfl
  rw [this, List.map_id]
theorem revE_take {es : List Ent} {k : Nat} (h : k < es.length) : revE (es.take (k + 1)) = swapE (eN es k) :: revE (es.take k) := by
  unfold revE
  rw [take_eN h]; simp
theorem enL_set : ∀ (es : List Ent) (k : Nat) (x : Ent), k < es.length → (enL es).take (k * 3) ++ entL x ++ (enL es).drop (k * 3 + 3) = enL (es.set k x)
  | e :: r, 0, x, _ => by simp [enL, entL]
  | e :: r, k + 1, x, h => by
    have := enL_set r k x (by simpa using h)
    rw [show (k + 1) * 3 = k * 3 + 1 + 1 + 1 from by omega]
    simpa [enL, entL] using this
abbrev zE : Ent := ⟨0, 0, 0⟩
theorem zeros_enL (n : Nat) : (madeCells (Value.agg #[.int .i64 0, .int .i64 0, .int .i64 0]).cells (n * 3)).toList = enL (List.replicate n zE) := by
  apply List.ext_getElem?
  intro i
  by_cases hi : i < n * 3
  · have e1 : (enL (List.replicate n zE))[i]? = some (.int .i64 0) := by
      have := enL_at (List.replicate n zE) (i / 3) (i % 3) (by simp; omega) (by omega)
      rw [show i / 3 * 3 + i % 3 = i from by omega] at this
      rw [this, show eN (List.replicate n zE) (i / 3) = zE from by
        simp only [eN, List.getD_eq_getElem?_getD, List.getElem?_replicate]; split <;> rfl]
      have : i % 3 = 0 ∨ i % 3 = 1 ∨ i % 3 = 2 := by omega
      rcases this with e | e | e <;> rw [e] <;> rfl
    rw [e1]
    have : i % 3 = 0 ∨ i % 3 = 1 ∨ i % 3 = 2 := by omega
    simp [madeCells, Value.cells, hi]
    rcases this with e | e | e <;> simp [e]
  · rw [List.getElem?_eq_none (by simp [madeCells]; omega), List.getElem?_eq_none (by rw [enL_len]; simp; omega)]
theorem set_zero (m : Nat) (x : Ent) (R : List Ent) : (List.replicate (m + 1) zE ++ R).set m x = List.replicate m zE ++ x :: R := by
  rw [List.set_append_left m x (by simp)]
  rw [List.replicate_succ']
  rw [List.set_append_right m x (by simp)]
  simp
end LedM

theorem RowE.blk {base g n : Nat} {w : World} {es : List Ent} (h : w.ownsRow base 41 3 (.slice (some ⟨g, 0, none⟩) n n) n (enL es)) : Blk g 41 (enL es) w := by
  have hlen := h.1
  rcases h.2 with ⟨hv, _⟩ | ⟨g', cap, cur, hv, hb, hg, hn, hm, hcs, htk⟩
  · cases hv
  · injection hv with e1 e2 e3
    injection e1 with e1
    injection e1 with e1 _ _
    subst e1 e3
    unfold Blk
    rw [hg]
    have : cur.toList = enL es := by rw [← htk, List.take_of_length_le (by rw [Array.length_toList]; omega)]
    rw [← this]
theorem RowE.of_blk {base g : Nat} {w : World} {es : List Ent} (h : Blk g 41 (enL es) w) (hb : base ≤ g) (hl : es.length ≤ maxLen) : RowE base w (.slice (some ⟨g, 0, none⟩) es.length es.length) es :=
  ⟨enL_len es, .inr ⟨g, es.length, (enL es).toArray, rfl, hb, h, Nat.le_refl _, hl, by simp [enL_len], by simp; exact List.take_of_length_le (by rw [enL_len]; exact Nat.le_refl _)⟩⟩

set_option maxRecDepth 20000 in
set_option maxHeartbeats 1000000 in
theorem rev_at (es : List Ent) (v : Value) (w : World) (hl : es.length ≤ 1000000000) (h : RdE w v es) : Calls Tryd.prog 4 #[v] w fun e w' => ∃ v', e = .returned v' ∧ RowE w.heap.size w' v' (revE es) ∧ Below w.heap.size w w' := by
  obtain ⟨i0, hi, hz0, hz1, hz2⟩ := info_parts infoE3
  have RD : Hid (∀ w', Below w.heap.size w w' → RdE w' v es) := fun w' hb => h.later hb
  obtain ⟨ao, cap, rfl, hcap, hno, _⟩ := h
  have CE : Hid (∀ w', Below w.heap.size w w' → ∀ i, i < es.length → ∃ g o, ao = some ⟨g, o, none⟩ ∧ w'.rangeAt g (o + i * 3) (entL (eN es i))) := fun w' hb i hi => by
    obtain ⟨ao', cap', e, _, _, H⟩ := RD.out w' hb
    injection e with e1 e2 e3
    subst e1
    obtain ⟨g, o, e, _, r⟩ := H i hi
    exact ⟨g, o, e, r⟩
  obtain ⟨L, hL⟩ : ∃ L, es.length = L := ⟨_, rfl⟩
  have HL : Hid (es.length = L) := hL
  rw [hL] at hcap hl CE ⊢
  have b2 : i0.bytes * L ≤ 281474976710656 := by rw [hz2]; omega
  have b3 : L ≤ maxLen := by unfold maxLen; omega
  clear RD hL
  go_enter Tryd.func4, Tryd.ntmps4
  go_wp2_with (refine wpList_make_full w rfl _ _ 26 rfl w.heap.size 41 i0 _ 3 Tryd.underlying26 hi hz0 hz1 .i64 .i64 _ _ L rfl rfl rfl rfl b2 b3 (Nat.le_refl _) ?_; intro w2 r2 g2; rw [zeros_enL] at r2; have N2 : Hid (Blk w.heap.size 41 (enL (List.replicate L zE)) w2) := RowE.blk r2; have B2 : Hid (Below w.heap.size w w2) := below_none g2; clear r2 g2)
  go_loopw [4, 5, 11] (fun _ _ vk wr => ∃ k : Nat, vk = .int .i64 (k : Int) ∧ k ≤ L ∧ Blk w.heap.size 41 (enL (List.replicate (L - k) zE ++ revE (es.take k))) wr ∧ Below w.heap.size w wr) (fun _ _ vk _ => L - (intOf vk).toNat)
  case atStart => exact ⟨0, rfl, by omega, by simpa [revE] using N2.out, B2.out⟩
  case round =>
    clear N2 B2
    obtain ⟨k, rfl, hk, nb, bb⟩ := hrel
    by_cases hlt : (k : Int) < (L : Int)
    · obtain ⟨g, o, rfl, rg⟩ := CE.out wr bb k (by omega)
      obtain ⟨m, hm⟩ : ∃ m, L = k + 1 + m := ⟨L - k - 1, by omega⟩
      have hix : (L : Int) - 1 - (k : Int) = (m : Int) := by omega
      have hml : (m : Int) < (L : Int) := by omega
      have RG : Hid (wr.rangeAt g (o + k * 3) (entL (eN es k))) := rg
      have lt : w.heap.size < wr.heap.size := nb.lt
      have NE : Hid (Blk wr.heap.size 41 (entL zE) (wr.alloc (.cells #[.int .i64 0, .int .i64 0, .int .i64 0] 41))) := Blk.new 41 (entL zE) wr
      rw [show L - k = m + 1 from by omega] at nb
      have NB : Hid (Blk w.heap.size 41 (enL (List.replicate (m + 1) zE ++ revE (es.take k))) (wr.alloc (.cells #[.int .i64 0, .int .i64 0, .int .i64 0] 41))) := nb.old _
      have BB : Hid (Below w.heap.size w (wr.alloc (.cells #[.int .i64 0, .int .i64 0, .int .i64 0] 41))) := bb.alloc bb.size _
      have FT : Hid (m * 3 + 3 ≤ (enL (List.replicate (m + 1) zE ++ revE (es.take k))).length) := by show _ ≤ _; rw [enL_len, List.length_append, List.length_replicate]; omega
      have ST : Hid ((enL (List.replicate (m + 1) zE ++ revE (es.take k))).take (m * 3) ++ entL (swapE (eN es k)) ++ (enL (List.replicate (m + 1) zE ++ revE (es.take k))).drop (m * 3 + 3) = enL (List.replicate (L - (k + 1)) zE ++ revE (es.take (k + 1)))) := by
        show _ = _
        rw [enL_set _ _ _ (by rw [List.length_append, List.length_replicate]; omega), set_zero, revE_take (by have := HL.out; omega), show L - (k + 1) = m from by omega]
      generalize enL (List.replicate (m + 1) zE ++ revE (es.take k)) = cs at *
      generalize eN es k = x at *
      obtain ⟨xd, xc, xa⟩ := x
      clear rg nb bb CE hm
      go_wp2_with (first
        | (refine step_load rfl 41 _ rfl g (o + k * 3) rfl (entL ⟨xd, xc, xa⟩) _ RG.out Tryd.underlying41 rfl (infoE _) ?_)
        | (refine step_store rfl 41 _ _ rfl wr.heap.size 0 41 (entL zE) (entL ⟨xd, xc, xa⟩) rfl rfl NE.out (Nat.le_refl _) (infoE _) (oneE _) ?_; intro w3 nb3 g3; have n3 : Blk wr.heap.size 41 (entL ⟨xd, xc, xa⟩) w3 := nb3; have c0 := n3.cell 0 _ rfl; have c1 := n3.cell 1 _ rfl; have c2 := n3.cell 2 _ rfl; have N3 : Hid (Blk w.heap.size 41 cs w3) := NB.out.grown g3 (by simp; omega); have B3 : Hid (Below w.heap.size w w3) := below_row BB.out g3 (by omega); clear nb3 n3 g3 NE NB BB)
        | (refine step_store rfl 41 _ _ rfl w.heap.size (m * 3) 41 cs (entL (swapE ⟨xd, xc, xa⟩)) rfl rfl N3.out FT.out (infoE _) (oneE _) ?_; intro w4 nb4 g4))
      go_roundw
      case rel => exact ⟨k + 1, by go_num, by omega, by rw [← ST.out]; exact nb4, below_row B3.out g4 (Nat.le_refl _)⟩
      case measure => simp [intOf]; omega
    · obtain rfl : k = L := by omega
      have RF : Hid (RowE w.heap.size wr (.slice (some ⟨w.heap.size, 0, none⟩) k k) (revE es)) := by
        have e1 : List.replicate (k - k) zE ++ revE (es.take k) = revE es := by rw [Nat.sub_self, List.take_of_length_le (by have := HL.out; omega)]; simp
        rw [e1] at nb
        have := RowE.of_blk (base := w.heap.size) nb (Nat.le_refl _) (by rw [revE_len, HL.out]; exact b3)
        rw [revE_len, HL.out] at this
        exact this
      clear nb CE
      go_wp2_with fail
      go_ret
      exact ⟨_, rfl, RF.out, bb⟩

set_option maxRecDepth 20000 in
set_option maxHeartbeats 2000000 in
theorem alike_yes (es : List Ent) (va vb : Value) (w : World) (hl : es.length ≤ 1000000000) (h : RdE w va es) (h' : RdE w vb es) : Calls Tryd.prog 13 #[va, vb] w fun e w' => e = .returned (.bool true) ∧ ∃ n, w' = w.drewN n := by
  obtain ⟨ao, cap, rfl, hc, hn, H⟩ := h
  obtain ⟨ao', cap', rfl, hc', hn', H'⟩ := h'
  obtain ⟨L, hL⟩ : ∃ L, es.length = L := ⟨_, rfl⟩
  have C1 : Hid (∀ i, i < L → ∃ g o, ao = some ⟨g, o, none⟩ ∧ w.cell? ⟨g, o + i * 3, none⟩ = some (.int .i64 (eN es i).d) ∧ w.cell? ⟨g, o + i * 3 + 1, none⟩ = some (.int .i64 (eN es i).c) ∧ w.cell? ⟨g, o + i * 3 + 2, none⟩ = some (.int .i64 (eN es i).a)) := fun i hi => by
    obtain ⟨g, o, e, _, r⟩ := H i (by omega)
    exact ⟨g, o, e, r 0 _ rfl, r 1 _ rfl, r 2 _ rfl⟩
  have C2 : Hid (∀ i, i < L → ∃ g o, ao' = some ⟨g, o, none⟩ ∧ w.cell? ⟨g, o + i * 3, none⟩ = some (.int .i64 (eN es i).d) ∧ w.cell? ⟨g, o + i * 3 + 1, none⟩ = some (.int .i64 (eN es i).c) ∧ w.cell? ⟨g, o + i * 3 + 2, none⟩ = some (.int .i64 (eN es i).a)) := fun i hi => by
    obtain ⟨g, o, e, _, r⟩ := H' i (by omega)
    exact ⟨g, o, e, r 0 _ rfl, r 1 _ rfl, r 2 _ rfl⟩
  rw [hL] at hl ⊢
  clear H H' hL hc hc' hn hn'
  have e0 : ((L : Int) != (L : Int)) = false := by simp
  go_enter Tryd.func13, Tryd.ntmps13
  go_wp2_with fail
  go_loopw [5] (fun vk wr => ∃ (m k : Nat), wr = w.drewN m ∧ vk = .int .i64 (k : Int) ∧ k ≤ L) (fun vk _ => L - (intOf vk).toNat)
  case atStart => exact ⟨0, 0, rfl, rfl, by omega⟩
  case round =>
    obtain ⟨m, k, rfl, rfl, hk⟩ := hrel
    by_cases hlt : (k : Int) < (L : Int)
    · obtain ⟨g, o, rfl, c0, c1, c2⟩ := C1.out k (by omega)
      obtain ⟨g', o', rfl, c3, c4, c5⟩ := C2.out k (by omega)
      generalize (eN es k).d = xd at *
      generalize (eN es k).c = xc at *
      generalize (eN es k).a = xa at *
      have e1 : (xd != xd) = false := by simp
      have e2 : (xc != xc) = false := by simp
      have e3 : (xa != xa) = false := by simp
      go_wp2_with fail
      go_quiet (fail)
      go_wp2_with fail
      go_roundw
      case rel => exact ⟨m + nq, k + 1, by simp, by go_num, by omega⟩
      case measure => simp [intOf]; omega
    · obtain rfl : k = L := by omega
      go_wp2_with fail
      go_ret
      exact ⟨rfl, m, rfl⟩
end Go.Proofs.YtacdnigeboeleaaDoor
