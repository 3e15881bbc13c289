/-
  Ours: the statement's step: Add (gen_obc.py).
-/
import Derived.Test.YteppdlaoeoeplaaObStB
namespace Go.Proofs.Yteppdlaoeoeplaa
open Go.RowKit ObM LedM PolM
set_option linter.unusedSimpArgs false


theorem rd_kp0 {w w' : World} {v : Value} {vs : List Value} {M : Nat → Prop} (h : Rd w v vs) (k : Kp M w w') (hm : 0 < vs.length → ∀ g, v.ownBlock = some g → ¬ M g) : Rd w' v vs := by
  by_cases h0 : 0 < vs.length
  · exact h.kp k (hm h0)
  · obtain ⟨ao, cap, e, h1, h2, _⟩ := h
    exact ⟨ao, cap, e, h1, h2, fun i hi => by omega⟩
theorem rd_kp2 {w0 w w' : World} {v : Value} {vs : List Value} {M : Nat → Prop} (h0 : Rd w0 v vs) (h : Rd w v vs) (k : Kp M w w') (hm : ∀ g, g < w0.heap.size → ¬ M g) : Rd w' v vs := by
  obtain ⟨ao, cap, e, h1, h2, h3⟩ := h
  obtain ⟨ao', cap', e', _, _, h3'⟩ := h0
  refine ⟨ao, cap, e, h1, h2, fun i hi => ?_⟩
  obtain ⟨g, o, e1, lt, e2⟩ := h3 i hi
  obtain ⟨g', o', e1', lt', _⟩ := h3' i hi
  have : g = g' := by
    rw [e] at e'
    injection e' with e' _ _
    rw [e1, e1'] at e'
    injection e' with e'
    injection e'
  exact ⟨g, o, e1, Nat.lt_of_lt_of_le lt k.size, cell_kp k (hm g (by rw [this]; exact lt')) e2⟩
theorem OPost.farK {R bm : Nat} {B B' M : Nat → Prop} {l : List Int} {L : List En} {w w1 w2 : World} (h : OPost R bm B l w L B' w1) (k : Kp M w1 w2) (hM : ∀ g, M g → w.heap.size ≤ g ∧ g ≠ R ∧ g ≠ bm ∧ ¬ B' g) : OPost R bm B l w L B' w2 := by
  refine ⟨⟨h.box.blk.kp k (fun q => (hM _ q).2.1 rfl), h.box.ll, h.box.mp.same (k.block bm h.box.mp.lt (fun q => (hM _ q).2.2.1 rfl)), h.box.rise, fun e he => ⟨(h.box.bd e he).1.kp k (fun g hg q => (hM g q).2.2.2 hg), (h.box.bd e he).2⟩, h.box.ok, fun g hg => ⟨Nat.lt_of_lt_of_le (h.box.b g hg).1 k.size, (h.box.b g hg).2⟩⟩, h.b, h.b', h.k.trans k (fun g hg q => by have := (hM g q).1; omega)⟩
theorem rd_block3 (w : World) (x y z : Value) : Rd (w.alloc (.cells #[x, y, z] 5)) (.slice (some ⟨w.heap.size, 0, none⟩) 3 3) [x, y, z] := by
  have b := Blk.new 5 [x, y, z] w
  refine ⟨_, 3, rfl, by simp, (fun h => by cases h), fun i hi => ⟨w.heap.size, 0, rfl, b.lt, ?_⟩⟩
  rw [Nat.zero_add]
  exact b.cell i _ (List.getElem?_eq_getElem hi)
theorem own_at3 {base : Nat} {w : World} {v : Value} {us ts : List Value} {nb : Nat} (h : RowV 5 base w v (us ++ ts)) (hn : us.length = nb) (ht : ts.length = 3) : ∃ g c, v = .slice (some ⟨g, 0, none⟩) (nb + 3) c ∧ nb + 3 ≤ c ∧ c ≤ maxLen ∧ base ≤ g ∧ g < w.heap.size ∧ Rd w (.slice (some ⟨g, 0, none⟩) nb c) us ∧ Rd w (.slice (some ⟨g, nb, none⟩) 3 (c - nb)) ts := by
  have hl : (us ++ ts).length = nb + 3 := by rw [List.length_append, hn, ht]
  have hcell := fun (g : Nat) (hg : v.ownBlock = some g) => World.ownsRow.cells h hg
  rcases h.2 with ⟨_, h0⟩ | ⟨g, cap, cur, rfl, hb, hg, hnc, hm, hs, ht'⟩
  · omega
  · have lt : g < w.heap.size := (Array.getElem?_eq_some_iff.1 hg).1
    have hc := hcell g rfl
    have key : ∀ i u, (us ++ ts)[i]? = some u → w.cell? ⟨g, i, none⟩ = some u := fun i u hu => by
      have := hc i u hu
      rwa [show (⟨g, 0, none⟩ : Addr).add i = ⟨g, i, none⟩ by unfold Addr.add; split <;> simp_all] at this
    refine ⟨g, cap, by rw [hl], by omega, hm, hb, lt, ⟨_, cap, by rw [hn], by omega, (fun h => by cases h), fun i hi => ⟨g, 0, rfl, lt, ?_⟩⟩, ⟨_, cap - nb, by rw [ht], by omega, (fun h => by cases h), fun i hi => ⟨g, nb, rfl, lt, ?_⟩⟩⟩
    · rw [Nat.zero_add]
      exact key i _ (by rw [List.getElem?_append_left hi]; exact List.getElem?_eq_getElem hi)
    · exact key (nb + i) _ (by rw [List.getElem?_append_right (by omega), show nb + i - us.length = i by omega]; exact List.getElem?_eq_getElem hi)
/-- What step answers to Add. -/
def StAdd (R bm : Nat) (B T : Nat → Prop) (lb : List Int) (o : Oc) (w : World) (L ys : List En) (e : Ending) (w' : World) : Prop :=
  ∃ a n c T' B' L' ys', e = .returned (.tuple #[.agg #[.pointer (some ⟨R, 0, none⟩), .slice a n c], .bool true, .agg #[.slice none 0 0, .slice none 0 0]]) ∧ OPost R bm B lb w L' B' w' ∧ RL T' w' a n c ys' ∧ (∀ g, T' g → T g ∨ w.heap.size ≤ g) ∧ RAdd L o.id o.now o.bs L' ∧ RAdd ys o.id o.now o.bs ys'
set_option maxRecDepth 40000 in
set_option maxHeartbeats 4000000 in
theorem step_add (R bm : Nat) (B T : Nat → Prop) (lb l : List Int) (s : Value) (L ys : List En) (a : Option Addr) (n c : Nat) (o : Oc) (xa : Option Addr) (xc : Nat) (m : Int) (w : World) (h : BoxV R bm B lb L w) (hr : RL T w a n c ys) (k1 : o.kd = 1) (hl : ys.length ≤ 1000000000) (hT : ∀ g, T g → g ≠ bm) (he : addE L o.id = addE ys o.id) (ok : OcOk o) (hb : RdB w (.slice xa o.bs.length xc) o.bs) (hbl : o.bs.length ≤ 1000000000) (hX : 0 < o.bs.length → ∀ g, (Value.slice xa o.bs.length xc).ownBlock = some g → g ≠ bm) :
    Calls Try.prog 12 #[.agg (polL l s).toArray, .agg #[.pointer (some ⟨R, 0, none⟩), .slice a n c], .agg (ocL o xa xc).toArray, .int .u8 m] w (StAdd R bm B T lb o w L ys) := by
  obtain ⟨i0, hi, hz0, hz1, hz2⟩ := info_parts infoB
  have HT : Hid (∀ g, T g → g ≠ bm) := hT
  have HBM : Hid (bm < w.heap.size) := h.mp.lt
  have FAR : Hid (∀ G, w.heap.size ≤ G → G ≠ R ∧ G ≠ bm ∧ ¬ B G) := fun G hG => ⟨by have := h.blk.lt; omega, by have := h.mp.lt; omega, fun q => by have := (h.b G q).1; omega⟩
  obtain ⟨nb, hnb⟩ : ∃ nb, o.bs.length = nb := ⟨_, rfl⟩
  have HNB : Hid (o.bs.length = nb) := hnb
  have ADD : Hid (∀ w' a' c', Below w.heap.size w w' → RdB w' (.slice a' nb c') o.bs → Calls Try.prog 17 #[.pointer (some ⟨R, 0, none⟩), .int .i64 o.id, .slice a' nb c', .int .i64 o.now] w' (AddAns R bm B lb L o.id o.now o.bs w')) := fun w' a' c' b q => add_at R bm B lb L o.id o.now a' nb c' o.bs w' (h.below b) ok.id ok.now q (by omega)
  have RADD : Hid (∀ w' a' n' c', RL T w' a n c ys → RdB w' (.slice a' n' c') o.bs → Calls Try.prog 19 #[.agg #[.slice a n c], .int .i64 o.id, .slice a' n' c', .int .i64 o.now] w' fun e w'' => ∃ a2 m2 c2 ys', e = .returned (.tuple #[.agg #[.slice a2 m2 c2], .int .i64 (addE ys o.id)]) ∧ RfAns T w' ys' a2 m2 c2 w'' ∧ RAdd ys o.id o.now o.bs ys') := fun w' a' n' c' q q2 => radd_at T ys a n c o.id o.now a' n' c' o.bs w' q hl q2 (by omega)
  have RD : Hid (∀ w', Below w.heap.size w w' → Rd w' (.slice xa nb xc) (o.bs.map bv)) := fun w' b => by
    have := Rd.later hb b
    rwa [hnb] at this
  have one := one_bv o.bs
  have lus : (o.bs.map bv).length = nb := by rw [List.length_map, hnb]
  have l1 : ([] : List Value).length + (o.bs.map bv).length ≤ maxLen := by rw [lus]; unfold maxLen; simp only [List.length_nil]; omega
  have l2 : (([] : List Value).length + (o.bs.map bv).length) * 1 ≤ 140737488355328 := by rw [lus]; simp only [List.length_nil]; omega
  obtain ⟨us, hus⟩ : ∃ us, o.bs.map bv = us := ⟨_, rfl⟩
  have HU : Hid (o.bs.map bv = us) := hus
  rw [hus] at one lus l1 l2 RD
  rw [hnb] at hbl
  have HX : Hid (0 < us.length → ∀ g, (Value.slice xa nb xc).ownBlock = some g → g ≠ bm) := by rw [lus, ← hnb]; exact hX
  have HE : Hid (addE L o.id = addE ys o.id) := he
  have RD0 : Hid (Rd w (.slice xa nb xc) us) := RD.out w (Below.refl _ _)
  clear hl hT ok hb hus hX he
  have W0 : Hid (BoxV R bm B lb L w ∧ RL T w a n c ys) := ⟨h, hr⟩
  have e1 : (o.kd == 1) = true := by rw [k1]; rfl
  clear k1
  obtain ⟨Q, hQ⟩ : ∃ Q, w.heap.size = Q := ⟨_, rfl⟩
  have HQ : Hid (w.heap.size = Q) := hQ
  obtain ⟨w0, hw0⟩ : ∃ w0, w.alloc (.cells (polL l s).toArray 24) = w0 := ⟨_, rfl⟩
  obtain ⟨w1, hw1⟩ : ∃ w1, ((((w0.alloc (.cells #[.pointer (some ⟨R, 0, none⟩), .slice a n c] 39)).alloc (.cells (ocL o xa xc).toArray 30)).alloc (.cells #[.pointer none, .slice none 0 0] 39)).alloc (.cells #[.slice none 0 0, .slice none 0 0] 45)) = w1 := ⟨_, rfl⟩
  have eQ : w0.heap.size = Q + 1 := by rw [← hw0, ← hQ]; simp
  have S1 : Hid (SB Q l s R (.slice a n c) o xa xc w1 ∧ Below w.heap.size w w1) := by
    rw [← hw1, ← hw0, ← hQ]
    exact SB.new w
  clear h hr
  go_enter Try.func12, Try.ntmps12
  go_upto_region 1 with fail
  clear hQ hw1 hw0 eQ
  have c0 := S1.out.1.o.cell 0 _ rfl
  have lt2 := S1.out.1.o.lt
  have o4 := S1.out.1.o.cell 4 _ rfl
  rw [hnb] at o4
  have rd1 := RD.out w1 S1.out.2
  go_upto_region 6 with (at_builtin; refine wpList_catV rfl (.tmp 32) (.tmp 34) 28 rfl 5 i0 (.int .u8 0) 1 underB hi hz0 hz1 hz2 rfl w1.heap.size (.slice none 0 0) _ [] us one rfl (RowV.nil _ _ _) (Nat.le_refl _) rfl rd1 l1 l2 ?_; intro v2 w2 r2 g2)
  obtain ⟨a2, c2, rfl, -, -⟩ := (RowV.rd r2).len
  rw [List.nil_append] at r2
  rw [List.nil_append, lus]
  rw [lus] at r2
  have b2 : Below w1.heap.size w1 w2 := below_none g2
  have R2 : Hid (RowV 5 w1.heap.size (w2.alloc (.cells #[.int .u8 201, .int .u8 202, .int .u8 203] 5)) (.slice a2 nb c2) us ∧ w1.heap.size ≤ (w2.alloc (.cells #[.int .u8 201, .int .u8 202, .int .u8 203] 5)).heap.size ∧ Below w1.heap.size w1 (w2.alloc (.cells #[.int .u8 201, .int .u8 202, .int .u8 203] 5))) := by
    have b := below_alloc w2 (.cells #[.int .u8 201, .int .u8 202, .int .u8 203] 5)
    exact ⟨RowV.bel r2 b, (below_trans b2 b).size, below_trans b2 b⟩
  have rd3 := rd_block3 w2 (.int .u8 201) (.int .u8 202) (.int .u8 203)
  have l3 : us.length + [Value.int .u8 201, .int .u8 202, .int .u8 203].length ≤ maxLen := by rw [lus]; unfold maxLen; simp; omega
  have l4 : (us.length + [Value.int .u8 201, .int .u8 202, .int .u8 203].length) * 1 ≤ 140737488355328 := by rw [lus]; simp; omega
  have on3 : ∀ u ∈ [Value.int .u8 201, .int .u8 202, .int .u8 203], u.oneCell' = true := by intro u hu; simp at hu; rcases hu with rfl | rfl | rfl <;> rfl
  clear r2 g2 rd1 o4 b2
  go_upto_region 7 with (at_builtin; refine wpList_catV rfl (.tmp 36) (.tmp 37) 28 rfl 5 i0 (.int .u8 0) 1 underB hi hz0 hz1 hz2 rfl w1.heap.size (.slice a2 nb c2) _ us [.int .u8 201, .int .u8 202, .int .u8 203] on3 rfl R2.out.1 R2.out.2.1 rfl rd3 l3 l4 ?_; intro v3 w3 r3 g3)
  obtain ⟨G, cG, rfl, hcG, hcm, hG, lG, rdG, rdT⟩ := own_at3 r3 lus rfl
  have S3 : Hid (SB Q l s R (.slice a n c) o xa xc w3 ∧ Below w.heap.size w w3 ∧ RowV 5 w1.heap.size w3 (.slice (some ⟨G, 0, none⟩) (nb + 3) cG) (us ++ [.int .u8 201, .int .u8 202, .int .u8 203]) ∧ RdB w3 (.slice (some ⟨G, 0, none⟩) nb cG) o.bs ∧ Rd w3 (.slice (some ⟨G, nb, none⟩) 3 (cG - nb)) [.int .u8 201, .int .u8 202, .int .u8 203] ∧ w1.heap.size ≤ G) := by
    have b3 : Below w1.heap.size w1 w3 := R2.out.2.2.grown g3 R2.out.2.1 (fun k e => (own_heap R2.out.1 e).1)
    exact ⟨S1.out.1.kp (Kp.of_below b3 (fun _ => False)) (fun _ _ _ q => q), below_trans S1.out.2 b3, r3, by unfold RdB; rw [HU.out]; exact rdG, rdT, hG⟩
  have Q1 : Hid (Q + 4 < w1.heap.size) := S1.out.1.z.lt
  clear r3 g3 rdG rdT rd3 l1 l2 l3 l4 on3 one lus R2 c0 lt2
  have x0 := S3.out.1.x.cell 0 _ rfl
  have lt1 := S3.out.1.x.lt
  have lt2 := S3.out.1.o.lt
  have o2 := S3.out.1.o.cell 2 _ rfl
  have o3 := S3.out.1.o.cell 3 _ rfl
  have o4 := S3.out.1.o.cell 4 _ rfl
  rw [hnb] at o4
  have hq1 : nb ≤ cG := by omega
  have hq2 : nb ≤ nb + 3 := by omega
  go_wp2_with fail
  refine (ADD.out _ _ _ S3.out.2.1 S3.out.2.2.2.1).mono ?_
  rintro e w4 ⟨rfl, q4⟩
  rw [HE.out]
  obtain ⟨B4, L4, p4, ra4⟩ : ∃ B4 L4, OPost R bm B lb w3 L4 B4 w4 ∧ RAdd L o.id o.now o.bs L4 := by
    rcases q4 with ⟨h1, p⟩ | ⟨h1, h2, h3, B', x, p, h4⟩
    · exact ⟨B, L, p, .inl ⟨h1, rfl⟩⟩
    · exact ⟨B', _, p, .inr ⟨h1, h2, h3, x, rfl, h4⟩⟩
  have GB : Hid (∀ g, w.heap.size ≤ g → ¬ g = bm) := fun g q e => by have := HBM.out; omega
  have S4 : Hid (SB Q l s R (.slice a n c) o xa xc w4 ∧ OPost R bm B lb w L4 B4 w4 ∧ RL T w4 a n c ys ∧ RowV 5 w1.heap.size w4 (.slice (some ⟨G, 0, none⟩) (nb + 3) cG) (us ++ [.int .u8 201, .int .u8 202, .int .u8 203]) ∧ RdB w4 (.slice (some ⟨G, 0, none⟩) nb cG) o.bs ∧ Rd w4 (.slice (some ⟨G, nb, none⟩) 3 (cG - nb)) [.int .u8 201, .int .u8 202, .int .u8 203] ∧ RdB w4 (.slice xa nb xc) o.bs) := by
    have hGb : ∀ g, some G = some g → ¬ g = bm := fun g e => by injection e with e; have := S3.out.2.2.2.2.2; have := S1.out.2.size; exact GB.out g (by omega)
    refine ⟨S3.out.1.kp p4.k (fun g q _ e => GB.out g (by have := HQ.out; omega) e), (OPost.refl W0.out.1 S3.out.2.1).trans p4, (W0.out.2.below S3.out.2.1).kp p4.k (fun g q e => HT.out g q e), RowV.kp S3.out.2.2.1 p4.k hGb, Rd.kp S3.out.2.2.2.1 p4.k hGb, Rd.kp S3.out.2.2.2.2.1 p4.k hGb, ?_⟩
    have := rd_kp0 (RD.out w3 S3.out.2.1) p4.k (fun h0 g q e => HX.out h0 g q e)
    unfold RdB
    rw [HU.out]; exact this
  have hG1 : Hid (w1.heap.size ≤ G ∧ w3.heap.size ≤ w4.heap.size ∧ G < w3.heap.size ∧ ∀ g, B4 g → B g ∨ w3.heap.size ≤ g) := ⟨S3.out.2.2.2.2.2, p4.k.size, lG, p4.b⟩
  have RA4 : Hid (RAdd L o.id o.now o.bs L4) := ra4
  have EQ1 : Hid (Calls Try.prog 18 #[.slice (some ⟨G, 0, none⟩) nb cG, .slice xa nb xc] w4 fun e w' => e = .returned (.bool true) ∧ ∃ n, w' = w4.drewN n) := by
    have := equal_at o.bs o.bs _ _ w4 (by rw [HNB.out]; omega) S4.out.2.2.2.2.1 S4.out.2.2.2.2.2.2
    refine this.mono ?_
    rintro e w' ⟨rfl, h⟩
    exact ⟨by simp, h⟩
  clear q4 p4 x0 lt1 lt2 o2 o3 o4 S3 ADD ra4 lG hG
  have lt2 := S4.out.1.o.lt
  have o4 := S4.out.1.o.cell 4 _ rfl
  rw [hnb] at o4
  go_wp2_with fail
  refine EQ1.out.mono ?_
  rintro e w5 ⟨rfl, n5, rfl⟩
  have b5 : Below w4.heap.size w4 ((w4.drewN n5).alloc (.cells #[.int .u8 201, .int .u8 202, .int .u8 203] 5)) := below_trans (below_drewN (Below.refl _ w4) n5) (below_alloc (w4.drewN n5) _)
  have EQ2 : Hid (Calls Try.prog 18 #[.slice (some ⟨G, nb, none⟩) 3 (cG - nb), .slice (some ⟨w4.heap.size, 0, none⟩) 3 3] ((w4.drewN n5).alloc (.cells #[.int .u8 201, .int .u8 202, .int .u8 203] 5)) fun e w' => e = .returned (.bool true) ∧ ∃ n, w' = ((w4.drewN n5).alloc (.cells #[.int .u8 201, .int .u8 202, .int .u8 203] 5)).drewN n) := by
    have := equal_at [201, 202, 203] [201, 202, 203] (.slice (some ⟨G, nb, none⟩) 3 (cG - nb)) (.slice (some ⟨w4.heap.size, 0, none⟩) 3 3) ((w4.drewN n5).alloc (.cells #[.int .u8 201, .int .u8 202, .int .u8 203] 5)) (by decide) (Rd.later S4.out.2.2.2.2.2.1 b5) (rd_block3 (w4.drewN n5) _ _ _)
    refine this.mono ?_
    rintro e w' ⟨rfl, h⟩
    exact ⟨by simp, h⟩
  go_wp2_with fail
  refine EQ2.out.mono ?_
  rintro e w6 ⟨rfl, n6, hw6⟩
  have b6 : Below w4.heap.size w4 w6 := by rw [hw6]; exact below_drewN b5 n6
  have S6 : Hid (SB Q l s R (.slice a n c) o xa xc w6 ∧ OPost R bm B lb w L4 B4 w6 ∧ RL T w6 a n c ys ∧ RdB w6 (.slice xa nb xc) o.bs) := ⟨S4.out.1.kp (Kp.of_below b6 (fun _ => False)) (fun _ _ _ q => q), S4.out.2.1.trans (OPost.refl S4.out.2.1.box b6), S4.out.2.2.1.below b6, Rd.later S4.out.2.2.2.2.2.2 b6⟩
  have L6 : Hid (∃ vs, vs.length = nb + 3 ∧ RowV 5 w1.heap.size w6 (.slice (some ⟨G, 0, none⟩) (nb + 3) cG) vs ∧ Kp (fun g => g = G) w6 w6) := ⟨_, own_len (S4.out.2.2.2.1) |>.symm, RowV.bel S4.out.2.2.2.1 b6, Kp.refl _ _⟩
  clear b5 b6 hw6 EQ1 EQ2 S4 o4 lt2
  go_wp2_with fail
  go_loopw [16] (fun vk wz => ∃ k : Nat, vk = .int .i64 (k : Int) ∧ k ≤ nb ∧ Hid (∃ vs, vs.length = nb + 3 ∧ RowV 5 w1.heap.size wz (.slice (some ⟨G, 0, none⟩) (nb + 3) cG) vs ∧ Kp (fun g => g = G) w6 wz)) (fun vk _ => nb - (intOf vk).toNat)
  case atStart => exact ⟨0, rfl, by omega, L6⟩
  case round =>
    clear L6
    obtain ⟨k, rfl, hk, D⟩ := hrel
    by_cases hlt : (k : Int) < (nb : Int)
    · obtain ⟨vs, hv, r, kp⟩ := D.out
      have hcell := World.ownsRow.cells r (g := G) rfl k _ (List.getElem?_eq_getElem (by omega))
      rw [show (⟨G, 0, none⟩ : Addr).add k = ⟨G, k, none⟩ by unfold Addr.add; split <;> simp_all] at hcell
      obtain ⟨u0, hc2⟩ : ∃ u0, wr.cell? ⟨G, k, none⟩ = some u0 := ⟨_, hcell⟩
      have hfz : wr.frozen? ⟨G, k, none⟩ = false := by
        obtain ⟨_, cur, hh⟩ := own_heap r (g := G) rfl
        simp [World.frozen?, hh]
      have D2 : Hid (∃ vs, vs.length = nb + 3 ∧ RowV 5 w1.heap.size (wr.setCell ⟨G, k, none⟩ (.int .u8 m)) (.slice (some ⟨G, 0, none⟩) (nb + 3) cG) vs ∧ Kp (fun g => g = G) w6 (wr.setCell ⟨G, k, none⟩ (.int .u8 m))) := by
        unfold RowV at r
        rw [hv] at r
        obtain ⟨r2, g2⟩ := World.ownsRow.stored r k (.int .u8 m)
        exact ⟨vs.set k (.int .u8 m), by rw [List.length_set, hv], by unfold RowV; rw [List.length_set, hv]; exact r2, kp.trans (Kp.of_grown g2) (fun g _ e => by injection e with e; exact e.symm)⟩
      clear hcell r kp hv D
      go_wp2_with fail
      go_roundw
      case rel => exact ⟨k + 1, by go_num, by omega, D2⟩
      case measure => simp [intOf]; omega
    · obtain ⟨vs, hv, r, kp⟩ := D.out
      have S7 : Hid (SB Q l s R (.slice a n c) o xa xc wr ∧ OPost R bm B lb w L4 B4 wr ∧ RL T wr a n c ys ∧ RdB wr (.slice xa nb xc) o.bs) := by
        have hGw : w.heap.size ≤ G := Nat.le_trans S1.out.2.size hG1.out.1
        refine ⟨S6.out.1.kp kp (fun g q1 q2 e => by have := Q1.out; have := hG1.out.1; omega), S6.out.2.1.farK kp (fun g e => ?_), S6.out.2.2.1.kp kp (fun g q e => by have := W0.out.2.lt g q; omega), ?_⟩
        · subst e
          refine ⟨hGw, (FAR.out g hGw).1, (FAR.out g hGw).2.1, fun q => ?_⟩
          rcases hG1.out.2.2.2 g q with h | h
          · exact (FAR.out g hGw).2.2 h
          · have := hG1.out.2.2.1; omega
        · have h6 := S6.out.2.2.2
          unfold RdB at h6 ⊢
          rw [HU.out] at h6 ⊢
          exact rd_kp2 RD0.out h6 kp (fun g q e => by omega)
      have FAR4 : Hid (∀ G, w.heap.size ≤ G → G ≤ Q + 4 → ¬ B4 G) := fun G' hG' hq q => by
        rcases hG1.out.2.2.2 G' q with h | h
        · exact (FAR.out G' hG').2.2 h
        · have := Q1.out; have := hG1.out; omega
      clear r kp hv D S6
      obtain ⟨ae, hae⟩ : ∃ ae, addE ys o.id = ae := ⟨_, rfl⟩
      have e3 : (ae == ae) = true := by simp
      rw [hae]
      have RADx : Hid (Calls Try.prog 19 #[.agg #[.slice a n c], .int .i64 o.id, .slice xa nb xc, .int .i64 o.now] wr fun e w'' => ∃ a2 m2 c2 ys', e = .returned (.tuple #[.agg #[.slice a2 m2 c2], .int .i64 ae]) ∧ RfAns T wr ys' a2 m2 c2 w'' ∧ RAdd ys o.id o.now o.bs ys') := by
        have := RADD.out wr xa nb xc S7.out.2.2.1 S7.out.2.2.2
        rwa [hae] at this
      clear hae RADD
      have x0 := S7.out.1.x.cell 0 _ rfl
      have lt1 := S7.out.1.x.lt
      have lt2 := S7.out.1.o.lt
      have o2 := S7.out.1.o.cell 2 _ rfl
      have o3 := S7.out.1.o.cell 3 _ rfl
      have o4 := S7.out.1.o.cell 4 _ rfl
      rw [hnb] at o4
      go_wp2_with (refine step_load rfl 37 _ rfl (Q + 1) 1 rfl [.slice a n c] _ (S7.out.1.x.range 1 1) Try.underlying37 rfl sizeRB ?_)
      refine RADx.out.mono ?_
      rintro e w8 ⟨a8, n8, c8, ys8, rfl, ⟨T8, r8, t8, b8⟩, ra8⟩
      have S8 : Hid (SB Q l s R (.slice a n c) o xa xc w8 ∧ OPost R bm B lb w L4 B4 w8 ∧ RL T8 w8 a8 n8 c8 ys8 ∧ (∀ g, T8 g → T g ∨ wr.heap.size ≤ g)) := ⟨S7.out.1.kp (Kp.of_below b8 (fun _ => False)) (fun _ _ _ q => q), S7.out.2.1.trans (OPost.refl S7.out.2.1.box b8), r8, t8⟩
      have RA8 : Hid (RAdd ys o.id o.now o.bs ys8) := ra8
      have Q4 : Hid (Q + 4 < wr.heap.size ∧ w.heap.size ≤ wr.heap.size) := ⟨S7.out.1.z.lt, S7.out.2.1.k.size⟩
      clear r8 t8 b8 ra8 x0 lt1 lt2 o2 o3 o4 RADx S7
      have lt1 := S8.out.1.x.lt
      go_upto_region 16 with ((with_reducible refine at_store ?_); refine step_store rfl 37 _ _ rfl (Q + 1) 1 39 [.pointer (some ⟨R, 0, none⟩), .slice a n c] [.slice a8 n8 c8] rfl rfl S8.out.1.x (show 1 + 1 ≤ 2 by decide) sizeRB (oneS _ _ _) ?_; intro w9 nb9 g9)
      have F8 : Hid (∀ g, T8 g → g ≠ Q + 1 ∧ g ≠ Q + 3 ∧ g ≠ Q + 4) := fun g q => by
        rcases S8.out.2.2.2 _ q with h | h
        · have := W0.out.2.lt _ h; have := HQ.out; omega
        · have := Q4.out; omega
      have S9 : Hid (Blk (Q + 1) 39 [.pointer (some ⟨R, 0, none⟩), .slice a8 n8 c8] w9 ∧ Blk (Q + 3) 39 [.pointer none, .slice none 0 0] w9 ∧ Blk (Q + 4) 45 [.slice none 0 0, .slice none 0 0] w9 ∧ OPost R bm B lb w L4 B4 w9 ∧ RL T8 w9 a8 n8 c8 ys8) :=
        ⟨nb9, S8.out.1.y.grown g9 (fun q => by injection q with q; omega), S8.out.1.z.grown g9 (fun q => by injection q with q; omega), OPost.far (S8.out.2.1) g9 (by have := HQ.out; omega) (FAR.out (Q + 1) (by have := HQ.out; omega)).1 (FAR.out (Q + 1) (by have := HQ.out; omega)).2.1 (FAR4.out (Q + 1) (by have := HQ.out; omega) (by omega)), S8.out.2.2.1.kp (Kp.of_grown g9) (fun g q e => by injection e with e; exact (F8.out g q).1 e.symm)⟩
      have T9 : Hid (∀ g, T8 g → T g ∨ w.heap.size ≤ g) := fun g q => (S8.out.2.2.2 g q).imp (fun q => q) (fun q => Nat.le_trans Q4.out.2 q)
      clear nb9 g9 S8 lt1
      go_wp2_with (first
        | (refine step_load rfl 39 _ rfl (Q + 1) 0 rfl [.pointer (some ⟨R, 0, none⟩), .slice a8 n8 c8] _ (Blk.all (S9.out.1)) Try.underlying39 rfl sizePr ?_)
        | ((with_reducible refine at_store ?_); refine step_store rfl 39 _ _ rfl (Q + 3) 0 39 [.pointer none, .slice none 0 0] [.pointer (some ⟨R, 0, none⟩), .slice a8 n8 c8] rfl rfl (S9.out.2.1) (show 0 + 2 ≤ 2 by decide) sizePr (two_one _ _ rfl rfl) ?_; intro wa nb2 g2; have z2 := (S9.out.2.2.1).grown g2 (fun q => by injection q with q; omega))
        | ((with_reducible refine at_store ?_); refine step_store rfl 45 _ _ rfl (Q + 4) 0 45 [.slice none 0 0, .slice none 0 0] [.slice none 0 0, .slice none 0 0] rfl rfl z2 (show 0 + 2 ≤ 2 by decide) sizeOu (two_one _ _ rfl rfl) ?_; intro wb nb3 g3))
      refine ret_ctc rfl rfl (Q + 3) 39 [.pointer (some ⟨R, 0, none⟩), .slice a8 n8 c8] _ rfl ((blk_whole2 (Z := [.pointer none, .slice none 0 0]) (by simp) nb2).grown g3 (fun q => by injection q with q; omega)) Try.underlying39 rfl sizePr (Q + 4) 45 [.slice none 0 0, .slice none 0 0] _ rfl (blk_whole2 (Z := [.slice none 0 0, .slice none 0 0]) (by simp) nb3) Try.underlying45 rfl sizeOu ?_
      unfold StAdd
      exact ⟨a8, n8, c8, T8, B4, L4, ys8, rfl, OPost.far (OPost.far (S9.out.2.2.2.1) g2 (by have := HQ.out; omega) (FAR.out (Q + 3) (by have := HQ.out; omega)).1 (FAR.out (Q + 3) (by have := HQ.out; omega)).2.1 (FAR4.out (Q + 3) (by have := HQ.out; omega) (by omega))) g3 (by have := HQ.out; omega) (FAR.out (Q + 4) (by have := HQ.out; omega)).1 (FAR.out (Q + 4) (by have := HQ.out; omega)).2.1 (FAR4.out (Q + 4) (by have := HQ.out; omega) (by omega)), (S9.out.2.2.2.2.kp (Kp.of_grown g2) (fun g q e => by injection e with e; exact (F8.out g q).2.1 e.symm)).kp (Kp.of_grown g3) (fun g q e => by injection e with e; exact (F8.out g q).2.2 e.symm), T9.out, RA4.out, RA8.out⟩
end Go.Proofs.Yteppdlaoeoeplaa
