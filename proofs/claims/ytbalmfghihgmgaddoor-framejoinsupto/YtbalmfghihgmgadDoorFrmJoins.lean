/-
  Ours: encodes; the rooms of FrameJoins.
-/
import Derived.Test.YtbalmfghihgmgadDoorFrmREnc
namespace Go.Proofs.YtbalmfghihgmgadDoor
open Go.RowKit

theorem roomL_lt {bs : List Nat} (hb : ∀ b ∈ bs, b < 256) : ∀ b ∈ roomL bs, b < 256 := by
  intro b hb'
  rcases List.mem_append.1 hb' with h1 | h1
  · exact hb b h1
  · simp [marks5] at h1; omega

set_option maxRecDepth 100000 in
set_option maxHeartbeats 2000000 in
theorem encodes_at (p : List Nat) (v : Value) (w : World) (hb : ∀ b ∈ p, b < 256) (hl : p.length ≤ 4194304) (h : RdB w v p) (hT : TabS w) : Calls Tryd.prog 13 #[v] w fun e w' => e = .returned (.bool true) ∧ Below w.heap.size w w' := by
  obtain ⟨ao, cap, rfl, hcap, _⟩ := h.len
  have hl0 : (p.map bv).length = p.length := List.length_map ..
  rw [hl0] at h hcap ⊢
  have R0 : Hid (∀ w', Below w.heap.size w w' → Calls Tryd.prog 6 #[.slice ao p.length cap] w' (NewB w' (roomL p))) := fun w' b => roomy_at p _ w' (by omega) (Rd.later h b)
  have EN : Hid (∀ w' v, Below w.heap.size w w' → RdB w' v p → Calls Tryd.prog 24 #[v] w' (NewT w' (CrcM.enc p))) := fun w' v b hr => encode_at p v w' hb hl hr (hT.below b)
  have RE : Hid (∀ w', Below w.heap.size w w' → Calls Tryd.prog 25 #[.slice ao p.length cap] w' (NewT w' (CrcM.enc p))) := fun w' b => rencode_at p _ w' hb hl (Rd.later h b)
  have HT : Hid ((roomL p).take p.length = p) := roomL_take p
  have HRL : Hid ((roomL p).length = p.length + 5) := roomL_len p
  have HEL : Hid ((CrcM.enc p).length ≤ 4194312) := by show _ ≤ _; rw [CrcM.enc_len]; omega
  clear h hT hb hl0
  generalize hEP : CrcM.enc p = EP at *
  clear hEP
  generalize hL : p.length = L at *
  clear hL
  go_enter Tryd.func13, Tryd.ntmps13
  go_wp2_with fail
  refine (R0.out _ (Below.refl _ _)).mono ?_
  rintro e w1 ⟨r, rfl, r1, b1⟩
  obtain ⟨ro, rc, rfl, hrc, _⟩ := (RowV.rd r1).len
  rw [List.length_map, HRL.out] at r1 hrc ⊢
  have hrc' : L ≤ rc := by omega
  have C1 : Hid (RdB w1 (.slice ro L rc) p) := by
    have := Rd.cut (k := L) (RowV.rd r1) (by omega)
    rw [← List.map_take, HT.out] at this; exact this
  have R1 : Hid (RdB w1 (.slice ro (L + 5) rc) (roomL p)) := RowV.rd r1
  have B1 : Hid (Below w.heap.size w w1) := b1
  clear r1 b1
  go_wp2_with fail
  refine (EN.out _ _ B1.out C1.out).mono ?_
  rintro e w2 ⟨a2, c2, rfl, o2, b2⟩
  have B2 : Hid (Below w.heap.size w w2) := below_trans B1.out b2
  have R2 : Hid (RdB w2 (.slice ro (L + 5) rc) (roomL p)) := Rd.later R1.out b2
  have O2 : Hid (RdB w2 (.slice a2 EP.length c2) EP) := RowV.rd o2
  clear o2 b2 C1 B1 R1 EN
  go_wp2_with fail
  refine (RE.out _ B2.out).mono ?_
  rintro e w3 ⟨a3, c3, rfl, o3, b3⟩
  have B3 : Hid (Below w.heap.size w w3) := below_trans B2.out b3
  have R3 : Hid (RdB w3 (.slice ro (L + 5) rc) (roomL p)) := Rd.later R2.out b3
  have O3 : Hid (RdB w3 (.slice a2 EP.length c2) EP) := Rd.later O2.out b3
  have V3 : Hid (RdB w3 (.slice a3 EP.length c3) EP) := RowV.rd o3
  clear o3 b3 R2 O2 B2 RE
  go_wp2_with fail
  refine (same_at EP EP _ _ w3 (by have := HEL.out; omega) O3.out V3.out).mono ?_
  rintro e w4 ⟨rfl, n4, rfl⟩
  rw [decide_eq_true rfl]
  go_wp2_with fail
  refine (R0.out _ (below_drewN B3.out n4)).mono ?_
  rintro e w6 ⟨r6, rfl, o6, b6⟩
  have W6 : Hid (Below w.heap.size w w6) := below_trans (below_drewN B3.out n4) b6
  have P6 : Hid (RdB w6 (.slice ro (L + 5) rc) (roomL p)) := Rd.later (Rd.drewN R3.out n4) b6
  have O6 : Hid (RdB w6 r6 (roomL p)) := RowV.rd o6
  obtain ⟨a6, c6, rfl, _, _⟩ := O6.out.len
  rw [List.length_map, HRL.out] at O6 ⊢
  clear o6 b6 R3 O3 V3
  go_wp2_with fail
  refine (same_at (roomL p) (roomL p) _ _ w6 (by have := HRL.out; omega) P6.out O6.out).mono ?_
  rintro e w7 ⟨rfl, n7, rfl⟩
  rw [decide_eq_true rfl]
  go_wp2_with fail
  go_ret
  exact ⟨rfl, below_drewN W6.out n7⟩

/-- A room: where it lies, its capacity, and the bytes ahead of the marks. -/
structure Room where
  g : Nat
  c : Nat
  p : List Nat
def Room.rv (x : Room) : Value := .slice (some ⟨x.g, 0, none⟩) (x.p.length + 5) x.c
def Room.mv (x : Room) : Value := .slice (some ⟨x.g, 0, none⟩) x.p.length x.c
/-- The two lists of rooms. -/
structure JI (base : Nat) (W : World) (vr vm : Value) (xs : List Room) (fs : Room → List Nat) : Prop where
  rr : RowV 22 base W vr (xs.map Room.rv)
  mm : RowV 22 base W vm (xs.map Room.mv)
  ne : ∀ g, vr.ownBlock = some g → vm.ownBlock ≠ some g
  it : ∀ x ∈ xs, RowB 5 base W x.rv (fs x)
  ap : xs.Pairwise (fun x y => x.g ≠ y.g)
theorem JI.later {base : Nat} {W W' : World} {vr vm : Value} {xs : List Room} {fs : Room → List Nat} (h : JI base W vr vm xs fs) (hb : Below W.heap.size W W') : JI base W' vr vm xs fs := ⟨RowV.later h.rr hb, RowV.later h.mm hb, h.ne, fun x hx => RowV.later (h.it x hx) hb, h.ap⟩
theorem JI.drewN {base : Nat} {W : World} {vr vm : Value} {xs : List Room} {fs : Room → List Nat} (h : JI base W vr vm xs fs) (n : Nat) : JI base (W.drewN n) vr vm xs fs := ⟨RowV.drewN h.rr n, RowV.drewN h.mm n, h.ne, fun x hx => RowV.drewN (h.it x hx) n, h.ap⟩
/-- The list of the parts ahead of the marks, as it reads. -/
theorem JI.rdm {base : Nat} {W : World} {vr vm : Value} {xs : List Room} {fs : Room → List Nat} (h : JI base W vr vm xs fs) (hf : ∀ x ∈ xs, (fs x).length = x.p.length + 5) : RdR W vm (xs.map fun x => (fs x).take x.p.length) := by
  obtain ⟨ao, cap, e, hc, _, H⟩ := RowV.rd h.mm
  subst e
  simp only [List.length_map] at hc H
  refine ⟨ao, cap, by simp, by simpa using hc, fun i hi => ?_⟩
  rw [List.length_map] at hi
  obtain ⟨g, o, e1, lt, e2⟩ := H i hi
  have hm : xs[i] ∈ xs := List.getElem_mem _
  have hl := hf _ hm
  have eg : ((xs.map fun x => (fs x).take x.p.length).getD i []) = (fs xs[i]).take xs[i].p.length := by rw [List.getD_eq_getElem?_getD, List.getElem?_map, List.getElem?_eq_getElem hi]; rfl
  have el : ((fs xs[i]).take xs[i].p.length).length = xs[i].p.length := by rw [List.length_take]; omega
  rw [eg]
  refine ⟨g, o, some ⟨xs[i].g, 0, none⟩, xs[i].c, e1, lt, ?_, ?_⟩
  · rw [e2, List.getElem_map, el]; rfl
  · rw [el]
    have r := Rd.cut (k := xs[i].p.length) (RowV.rd (h.it _ hm)) (by omega)
    rw [← List.map_take] at r
    exact r
theorem JI.rdr {base : Nat} {W : World} {vr vm : Value} {xs : List Room} {fs : Room → List Nat} (h : JI base W vr vm xs fs) (hf : ∀ x ∈ xs, (fs x).length = x.p.length + 5) : RdR W vr (xs.map fs) := by
  obtain ⟨ao, cap, e, hc, _, H⟩ := RowV.rd h.rr
  subst e
  simp only [List.length_map] at hc H
  refine ⟨ao, cap, by simp, by simpa using hc, fun i hi => ?_⟩
  rw [List.length_map] at hi
  obtain ⟨g, o, e1, lt, e2⟩ := H i hi
  have hm : xs[i] ∈ xs := List.getElem_mem _
  have hl := hf _ hm
  have eg : ((xs.map fs).getD i []) = fs xs[i] := by rw [List.getD_eq_getElem?_getD, List.getElem?_map, List.getElem?_eq_getElem hi]; rfl
  rw [eg]
  refine ⟨g, o, some ⟨xs[i].g, 0, none⟩, xs[i].c, e1, lt, ?_, ?_⟩
  · rw [e2, List.getElem_map, hl]; rfl
  · rw [hl]; exact RowV.rd (h.it _ hm)
/-- One room more. -/
theorem JI.push {base : Nat} {W W1 W2 : World} {vr vm vr' vm' : Value} {xs : List Room} {x : Room} (h : JI base W vr vm xs (fun y => roomL y.p)) (hx : RowB 5 base W x.rv (roomL x.p)) (hlt : ∀ y ∈ xs, y.g ≠ x.g)
    (r1 : RowV 22 base W1 vr' (xs.map Room.rv ++ [x.rv])) (g1 : W.grownBy W1 vr.ownBlock) (n1 : Near W vr vr') (r2 : RowV 22 base W2 vm' (xs.map Room.mv ++ [x.mv])) (g2 : W1.grownBy W2 vm.ownBlock) (n2 : Near W1 vm vm') :
    JI base W2 vr' vm' (xs ++ [x]) (fun y => roomL y.p) := by
  have ne1 : ∀ g, vr'.ownBlock = some g → vm.ownBlock ≠ some g := fun g hg e => by
    rcases n1 g hg with k | k
    · exact h.ne g k e
    · have := h.mm.block_lt e; omega
  have keep : ∀ {y : Room}, RowB 5 base W y.rv (roomL y.p) → RowB 5 base W2 y.rv (roomL y.p) := fun {y} hy => by
    have k1 : RowB 5 base W1 y.rv (roomL y.p) := RowV.kept hy g1 (fun g hg e => rows_ne hy h.rr (by decide) hg e)
    have m1 : RowV 22 base W1 vm (xs.map Room.mv) := RowV.kept h.mm g1 (fun g hg e => h.ne g e hg)
    exact RowV.kept k1 g2 (fun g hg e => rows_ne k1 m1 (by decide) hg e)
  refine ⟨?_, by rw [List.map_append]; exact r2, fun g hg e => ?_, fun y hy => ?_, ?_⟩
  · rw [List.map_append]
    exact RowV.kept r1 g2 (fun g hg e => ne1 g hg e)
  · rcases n2 g e with k | k
    · exact ne1 g hg k
    · have := r1.block_lt hg; omega
  · rcases List.mem_append.1 hy with k | k
    · exact keep (h.it y k)
    · simp at k; subst k; exact keep hx
  · rw [List.pairwise_append]
    refine ⟨h.ap, List.pairwise_singleton _ _, fun y hy z hz => ?_⟩
    simp at hz; subst hz
    exact hlt y hy
end Go.Proofs.YtbalmfghihgmgadDoor
