/-
  Ours: blocks, rows that are cut, and what a call may change.
-/
import Derived.Test.YtcmfehabcklbpaaDoorProg
import Derived.Test.YtcmfehabcklbpaaDoorWirOwn
import Derived.Laws.CopyOwn
import Derived.Lib.AppendZerosOnto
import Derived.Deep.Cut
namespace Go.Proofs.YtcmfehabcklbpaaDoor
open Go.RowKit

theorem infoB : (Tryd.prog.info? 5).map (fun i => (i.zero, i.size, i.bytes)) = some (some (.int .u8 0), 1, 1) := by kernel_rfl
theorem underB : Tryd.prog.underlying 22 = some (.slice 5) := by kernel_rfl
theorem sizeB : (Tryd.prog.info? 5).map (·.size) = some 1 := by kernel_rfl

def Blk (G : Nat) (ty : TypeId) (cs : List Value) (w : World) : Prop := w.heap[G]? = some (.cells cs.toArray ty (0, 0))
theorem Blk.lt {G : Nat} {ty : TypeId} {cs : List Value} {w : World} (h : Blk G ty cs w) : G < w.heap.size := (Array.getElem?_eq_some_iff.1 h).1
theorem Blk.cell {G : Nat} {ty : TypeId} {cs : List Value} {w : World} (h : Blk G ty cs w) (i : Nat) (u : Value) (hi : cs[i]? = some u) : w.cell? ⟨G, i, none⟩ = some u := by
  simp [World.cell?, show w.heap[G]? = _ from h, hi]
theorem Blk.fz {G : Nat} {ty : TypeId} {cs : List Value} {w : World} (h : Blk G ty cs w) (i : Nat) : w.frozen? ⟨G, i, none⟩ = false := by simp [World.frozen?, show w.heap[G]? = _ from h]
theorem Blk.grown {G g : Nat} {ty : TypeId} {cs : List Value} {w w' : World} (h : Blk G ty cs w) (hb : w.grownBy w' (some g)) (hg : g ≠ G) : Blk G ty cs w' :=
  (hb.block G h.lt (fun e => hg (by injection e with e; exact e.symm))).trans h
theorem Blk.below {G : Nat} {ty : TypeId} {cs : List Value} {w w' : World} (h : Blk G ty cs w) (hb : Below w.heap.size w w') : Blk G ty cs w' := (hb.block G h.lt).trans h
theorem Blk.set {G i : Nat} {ty : TypeId} {cs : List Value} {w : World} (h : Blk G ty cs w) (u : Value) : Blk G ty (cs.set i u) (w.setCell ⟨G, i, none⟩ u) := by
  have := heap_setCell_same w G i cs.toArray ty u h
  unfold Blk
  rw [this]
  simp
theorem Blk.new (ty : TypeId) (cs : List Value) (w : World) : Blk w.heap.size ty cs (w.alloc (.cells cs.toArray ty)) := (MapKept.heap_alloc w _).1
theorem setCell_grown (w : World) (R i : Nat) (u : Value) : w.grownBy (w.setCell ⟨R, i, none⟩ u) (some R) := ⟨rfl, rfl, rfl, Nat.le_of_eq (by simp), fun k _ hk => Below.heap_setCell _ _ _ _ (fun e => hk (by rw [e]))⟩

theorem RowV.cut {e : TypeId} {base : Nat} {w : World} {a : Option Addr} {n c : Nat} {xs : List Value} (h : RowV e base w (.slice a n c) xs) {k : Nat} (hk : k ≤ n) : RowV e base w (.slice a k c) (xs.take k) := by
  obtain ⟨h0, h⟩ := h
  rcases h with ⟨e1, e2⟩ | ⟨g, cap, cur, e1, hb, hg, h1, h2, h3, h4⟩
  · cases e1
    obtain rfl : k = 0 := by omega
    exact ⟨by simp, .inl ⟨rfl, by simp⟩⟩
  · injection e1 with e1 e2 e3
    subst e1 e2 e3
    have hl : (xs.take k).length = k := by rw [List.length_take]; omega
    refine ⟨by simp, .inr ⟨g, c, cur, by rw [hl], hb, hg, by omega, h2, h3, ?_⟩⟩
    rw [hl, ← h4, List.take_take]
    congr 1
    omega

/-- What a call leaves: all blocks but those of M. -/
structure Kp (M : Nat → Prop) (w w' : World) : Prop where
  os : w'.os = w.os
  tape : w'.tape = w.tape
  output : w'.output = w.output
  size : w.heap.size ≤ w'.heap.size
  block : ∀ k, k < w.heap.size → ¬ M k → w'.heap[k]? = w.heap[k]?
theorem Kp.refl (M : Nat → Prop) (w : World) : Kp M w w := ⟨rfl, rfl, rfl, Nat.le_refl _, fun _ _ _ => rfl⟩
theorem Kp.trans {M N : Nat → Prop} {a b c : World} (h : Kp M a b) (k : Kp N b c) (hN : ∀ g, g < a.heap.size → N g → M g) : Kp M a c :=
  ⟨k.os.trans h.os, k.tape.trans h.tape, k.output.trans h.output, Nat.le_trans h.size k.size, fun i hi hm => (k.block i (Nat.lt_of_lt_of_le hi h.size) (fun hn => hm (hN i hi hn))).trans (h.block i hi hm)⟩
theorem Kp.mono {M N : Nat → Prop} {a b : World} (h : Kp M a b) (hN : ∀ g, g < a.heap.size → M g → N g) : Kp N a b := ⟨h.os, h.tape, h.output, h.size, fun i hi hm => h.block i hi (fun hn => hm (hN i hi hn))⟩
theorem Kp.of_grown {a b : World} {row : Option Nat} (h : a.grownBy b row) : Kp (fun g => row = some g) a b := ⟨h.os, h.tape, h.output, h.size, fun i hi hm => h.block i hi (fun e => hm e.symm)⟩
theorem Kp.of_below {a b : World} (h : Below a.heap.size a b) (M : Nat → Prop) : Kp M a b := ⟨h.os, h.tape, h.output, h.size, fun i hi _ => h.block i hi⟩
theorem Kp.below {a b : World} {M : Nat → Prop} (h : Kp M a b) (hM : ∀ g, M g → a.heap.size ≤ g) : Below a.heap.size a b := ⟨h.os, h.tape, h.output, h.size, fun i hi => h.block i hi (fun hm => by have := hM i hm; omega)⟩
theorem Kp.drewN {M : Nat → Prop} {w w' : World} (h : Kp M w w') (n : Nat) : Kp M w (w'.drewN n) := ⟨h.os, h.tape, h.output, h.size, h.block⟩
theorem Blk.kp {G : Nat} {ty : TypeId} {cs : List Value} {w w' : World} {M : Nat → Prop} (h : Blk G ty cs w) (k : Kp M w w') (hm : ¬ M G) : Blk G ty cs w' := (k.block G h.lt hm).trans h
theorem RowV.kp {e : TypeId} {base : Nat} {w w' : World} {v : Value} {xs : List Value} {M : Nat → Prop} (h : RowV e base w v xs) (k : Kp M w w') (hm : ∀ g, v.ownBlock = some g → ¬ M g) : RowV e base w' v xs := by
  refine ⟨h.1, ?_⟩
  rcases h.2 with hn | ⟨g, cap, cur, hv, hg, hh, rest⟩
  · exact .inl hn
  · have lt : g < w.heap.size := (Array.getElem?_eq_some_iff.1 hh).1
    exact .inr ⟨g, cap, cur, hv, hg, (k.block g lt (hm g (by rw [hv]; rfl))).trans hh, rest⟩
theorem Rd.kp {w w' : World} {v : Value} {vs : List Value} {M : Nat → Prop} (h : Rd w v vs) (k : Kp M w w') (hm : ∀ g, v.ownBlock = some g → ¬ M g) : Rd w' v vs := by
  obtain ⟨ao, cap, e, h1, h2, h3⟩ := h
  refine ⟨ao, cap, e, h1, h2, fun i hi => ?_⟩
  obtain ⟨g, o, e1, lt, e2⟩ := h3 i hi
  refine ⟨g, o, e1, Nat.lt_of_lt_of_le lt k.size, ?_⟩
  rw [← e2]
  have hb := k.block g lt (hm g (by rw [e, e1]; rfl))
  simp only [World.cell?, hb]
theorem Rd.cut {w : World} {a : Option Addr} {n c : Nat} {vs : List Value} (h : Rd w (.slice a n c) vs) {k : Nat} (hk : k ≤ n) : Rd w (.slice a k c) (vs.take k) := by
  obtain ⟨ao, cp, e, h1, h2, h3⟩ := h
  injection e with e1 e2 e3
  subst e1 e2 e3
  have hm : (vs.take k).length = k := by rw [List.length_take]; omega
  refine ⟨a, c, by rw [hm], by omega, h2, fun i hi => ?_⟩
  obtain ⟨b, off, e1, e2, e3⟩ := h3 i (by omega)
  refine ⟨b, off, e1, e2, ?_⟩
  rw [e3]
  simp
theorem Rd.block {w : World} {v : Value} {vs : List Value} (h : Rd w v vs) (h0 : 0 < vs.length) {g : Nat} (hg : v.ownBlock = some g) : g < w.heap.size := by
  obtain ⟨ao, cap, rfl, _, _, H⟩ := h
  obtain ⟨g', o, rfl, lt, _⟩ := H 0 h0
  simp [Value.ownBlock] at hg
  omega
theorem one_bv (bs : List Nat) : ∀ u ∈ bs.map bv, u.oneCell' = true := fun u hu => by obtain ⟨x, _, rfl⟩ := List.mem_map.1 hu; rfl
def NewB (w : World) (bs : List Nat) (e : Ending) (w' : World) : Prop := ∃ v, e = .returned v ∧ RowB 5 w.heap.size w' v bs ∧ Below w.heap.size w w'

set_option maxRecDepth 20000 in
set_option maxHeartbeats 1000000 in
theorem dcopied_at (bs : List Nat) (v : Value) (w : World) (hl : bs.length ≤ 140737488351232) (h : RdB w v bs) : Calls Tryd.prog 41 #[v] w (NewB w bs) := by
  obtain ⟨i0, hi, hz0, hz1, hz2⟩ := info_parts infoB
  obtain ⟨ao, cap, ev, _, _, H⟩ := h
  obtain ⟨L, hL⟩ : ∃ L, bs.length = L := ⟨_, rfl⟩
  rw [List.length_map, hL] at ev
  subst ev
  have HH : Hid (0 < (bs.map bv).length → ∃ ad, ao = some ad ∧ ∀ (w' : World), Below w.heap.size w w' → ∀ j u, (bs.map bv)[j]? = some u → w'.cell? (ad.add j) = some u) := fun h0 => by
    obtain ⟨g, o, e1, lt, _⟩ := H 0 h0
    refine ⟨_, e1, fun w' hb j u hj => ?_⟩
    obtain ⟨hj1, hj2⟩ := List.getElem?_eq_some_iff.1 hj
    obtain ⟨g', o', e2, lt', e3⟩ := H j hj1
    rw [e1] at e2
    cases e2
    have hadd : (⟨g, o, none⟩ : Addr).add j = ⟨g, o + j, none⟩ := by unfold Addr.add; split <;> simp_all
    rw [hadd]
    rw [hb.cell (p := ⟨g, o + j, none⟩) lt', e3, hj2]
  have HL : Hid (bs.length = L) := hL
  have HLM : Hid ((bs.map bv).length = L) := by show _ = _; rw [List.length_map, hL]
  have b2 : i0.bytes * L ≤ 281474976710656 := by rw [hz2]; omega
  have b3 : L ≤ maxLen := by unfold maxLen; omega
  have one := one_bv bs
  clear H hL hl
  go_enter Tryd.func41, Tryd.ntmps41
  go_upto_region 2 with (refine wpList_make_full _ rfl (.tmp 5) (.tmp 5) 22 rfl w.heap.size 5 i0 (.int .u8 0) 1 underB hi hz0 hz1 .i64 .i64 _ _ L rfl rfl rfl rfl b2 b3 (Nat.le_refl _) ?_; intro w2 r2 g2)
  obtain ⟨cur, hc, hcl⟩ : ∃ cur : List Value, w2.heap[w.heap.size]? = some (.cells cur.toArray 5 (0, 0)) ∧ cur.length = L := by
    obtain ⟨_, h2⟩ := r2
    rcases h2 with ⟨e1, _⟩ | ⟨g, cp, cu, e1, _, hg, _, _, hs, _⟩
    · cases e1
    · injection e1 with e1 e2 e3
      injection e1 with e1
      injection e1 with e1
      subst e1 e3
      exact ⟨cu.toList, hg, by rw [Array.length_toList, hs]; omega⟩
  have B2 := below_none g2
  have n1 : (bs.map bv).length = Nat.min L L := by rw [HLM.out]; simp
  have pos : 0 < (bs.map bv).length → (some (⟨w.heap.size, 0, none⟩ : Addr)) = some ⟨w.heap.size, 0, none⟩ ∧ ∃ ad, ao = some ad ∧ ∀ j u, (bs.map bv)[j]? = some u → w2.cell? (ad.add j) = some u := fun h0 => by
    obtain ⟨ad, e1, e2⟩ := HH.out h0
    exact ⟨rfl, ad, e1, e2 w2 B2⟩
  have fit : 0 + (bs.map bv).length ≤ cur.length := by rw [HLM.out]; omega
  have SP : Hid (splice cur 0 (bs.map bv) = bs.map bv) := by
    show _ = _
    unfold splice
    rw [List.take_zero, List.nil_append, List.drop_of_length_le (by rw [HLM.out]; omega), List.append_nil]
  clear r2 g2 HH
  generalize hcs : bs.map bv = cs at *
  have HC : Hid (bs.map bv = cs) := hcs
  clear hcs
  go_wp2_with (refine wpList_copy_splice rfl (.tmp 7) (.tmp 8) 22 22 rfl 5 underB sizeB _ _ _ _ _ _ rfl rfl w.heap.size 0 cur 5 hc cs n1 pos fit one w.heap.size w B2 (Nat.le_refl _) ?_; intro w3 hg3 B3)
  go_ret
  refine ⟨.slice (some ⟨w.heap.size, 0, none⟩) L L, rfl, ?_, B3⟩
  have e1 := hg3.out
  rw [SP.out] at e1
  refine ⟨by simp, .inr ⟨w.heap.size, L, cs.toArray, by rw [HC.out, HLM.out], Nat.le_refl _, e1, by rw [HC.out, HLM.out]; exact Nat.le_refl _, b3, by rw [List.size_toArray, HLM.out]; omega, by rw [HC.out]; simp⟩⟩
end Go.Proofs.YtcmfehabcklbpaaDoor
