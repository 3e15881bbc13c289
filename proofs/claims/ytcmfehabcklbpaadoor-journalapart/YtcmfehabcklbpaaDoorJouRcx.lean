/-
  Ours: recovered where a journal is found, and where its rows lie (gen_jourcx.py: THE SEAT's OWN NUMBERS).
-/
import Derived.Test.YtcmfehabcklbpaaDoorJouTrn
namespace Go.Proofs.YtcmfehabcklbpaaDoor
open Go.RowKit JM

/-- Rows of one's own, apart from each other, all below a place. -/
structure TlsX (base Z : Nat) (w : World) (v : Value) (ps : List (List Nat)) : Prop where
  row : ∃ vs : List Value, RowV 22 base w v vs ∧ vs.length = ps.length ∧ (∀ x ∈ vs.zip ps, OwnT base w x.1 x.2) ∧ vs.Pairwise (fun a b => ∀ g, a.ownBlock = some g → b.ownBlock ≠ some g) ∧ (∀ y ∈ vs, ∀ g, y.ownBlock = some g → g < Z) ∧ ∀ g, v.ownBlock = some g → g < Z
theorem TlsV.x {base : Nat} {w : World} {v : Value} {ps : List (List Nat)} (h : TlsV base w v ps) : TlsX base w.heap.size w v ps := by
  obtain ⟨vs, h1, h2, h3, h4⟩ := h.row
  exact ⟨vs, h1, h2, h3, h4, fun y hy g hg => by obtain ⟨q, hq⟩ := zip_memT h2 hy; exact (h3 _ hq).block_lt hg, fun g hg => RowV.block_lt h1 hg⟩
theorem TlsX.later {base Z : Nat} {w w' : World} {v : Value} {ps : List (List Nat)} (h : TlsX base Z w v ps) (hb : Below w.heap.size w w') : TlsX base Z w' v ps := by
  obtain ⟨vs, h1, h2, h3, h4, h5⟩ := h.row
  exact ⟨vs, RowV.later h1 hb, h2, fun x hx => (h3 x hx).later hb, h4, h5⟩
theorem TlsX.kp {base Z : Nat} {w w' : World} {v : Value} {ps : List (List Nat)} {M : Nat → Prop} (h : TlsX base Z w v ps) (k : Kp M w w') (hm : ∀ g, base ≤ g → ¬ M g) : TlsX base Z w' v ps := by
  obtain ⟨vs, h1, h2, h3, h4, h5⟩ := h.row
  exact ⟨vs, RowV.kp h1 k (fun g hg => hm g (RowV.block_ge h1 hg)), h2, fun x hx => (h3 x hx).kp k hm, h4, h5⟩
theorem TlsX.cap {base Z : Nat} {w : World} {v : Value} {ps : List (List Nat)} (h : TlsX base Z w v ps) : TlsX base (min Z w.heap.size) w v ps := by
  obtain ⟨vs, h1, h2, h3, h4, h5⟩ := h.row
  exact ⟨vs, h1, h2, h3, h4, fun y hy g hg => by obtain ⟨q, hq⟩ := zip_memT h2 hy; have := (h3 _ hq).block_lt hg; have := h5.1 y hy g hg; omega, fun g hg => by have := h5.2 g hg; have := RowV.block_lt h1 hg; omega⟩
theorem TlsX.len {base Z : Nat} {w : World} {v : Value} {ps : List (List Nat)} (h : TlsX base Z w v ps) : ∃ a c, v = .slice a ps.length c ∧ ps.length ≤ c := by
  obtain ⟨vs, h1, h2, -⟩ := h.row
  obtain ⟨a, c, e, hc, -⟩ := (RowV.rd h1).len
  exact ⟨a, c, by rw [← h2]; exact e, by rw [← h2]; exact hc⟩
theorem TlsX.rd {base Z : Nat} {w : World} {v : Value} {ps : List (List Nat)} (h : TlsX base Z w v ps) : RdR w v ps := by
  obtain ⟨vs, h1, h2, h3, h4, h5⟩ := h.row
  exact TlsV.rd ⟨vs, h1, h2, h3, h4⟩
theorem TlsX.mono {base base' Z : Nat} {w : World} {v : Value} {ps : List (List Nat)} (h : TlsX base Z w v ps) (hb : base' ≤ base) : TlsX base' Z w v ps := by
  obtain ⟨vs, h1, h2, h3, h4, h5⟩ := h.row
  exact ⟨vs, RowV.mono h1 hb, h2, fun x hx => (h3 x hx).mono hb, h4, h5⟩
theorem OwnT.kpx {base : Nat} {w w' : World} {x : Value} {p : List Nat} {M : Nat → Prop} (h : OwnT base w x p) (k : Kp M w w') (hm : ∀ g, x.ownBlock = some g → ¬ M g) : OwnT base w' x p := by
  obtain ⟨g, n, cap, k0, o, q, h1, rfl, h2⟩ := h
  exact ⟨g, n, cap, k0, o, q, RowV.kp h1 k (fun g' hg' => hm g' hg'), rfl, h2⟩
theorem TlsX.kp2 {base Z : Nat} {w w' : World} {v : Value} {ps : List (List Nat)} {M : Nat → Prop} (h : TlsX base Z w v ps) (k : Kp M w w') (hm : ∀ g, base ≤ g → g < Z → ¬ M g) : TlsX base Z w' v ps := by
  obtain ⟨vs, h1, h2, h3, h4, h5⟩ := h.row
  refine ⟨vs, RowV.kp h1 k (fun g hg => hm g (RowV.block_ge h1 hg) (h5.2 g hg)), h2, fun x hx => (h3 x hx).kpx k (fun g hg => hm g ((h3 x hx).block_ge hg) (h5.1 x.1 (List.of_mem_zip hx).1 g hg)), h4, h5⟩
/-- The rows of a list by their places: what each holds. -/
structure TlsF (bz base Z N : Nat) (w : World) (v : Value) (C : Nat → List Nat) : Prop where
  row : ∃ vs : List Value, RowV 22 bz w v vs ∧ vs.length = N ∧ (∀ j, j < N → ∃ y, vs[j]? = some y ∧ OwnT base w y (C j) ∧ ∀ g, y.ownBlock = some g → g < Z) ∧ (∀ (i j : Nat) (yi yj : Value), i ≠ j → vs[i]? = some yi → vs[j]? = some yj → ∀ g, yi.ownBlock = some g → yj.ownBlock ≠ some g)
theorem TlsF.later {bz base Z N : Nat} {w w' : World} {v : Value} {C : Nat → List Nat} (h : TlsF bz base Z N w v C) (hb : Below w.heap.size w w') : TlsF bz base Z N w' v C := by
  obtain ⟨vs, h1, h2, h3, h4⟩ := h.row
  exact ⟨vs, RowV.later h1 hb, h2, fun j hj => by obtain ⟨y, e, o, l⟩ := h3 j hj; exact ⟨y, e, o.later hb, l⟩, h4⟩
theorem OwnT.at {base : Nat} {w : World} {x : Value} {p : List Nat} (h : OwnT base w x p) : ∃ g o c, x = .slice (some ⟨g, o, none⟩) p.length c ∧ base ≤ g ∧ g < w.heap.size ∧ (∀ k, k < p.length → w.cell? ⟨g, o + k, none⟩ = some (bv (p.getD k 0)) ∧ w.frozen? ⟨g, o + k, none⟩ = false) ∧
    (∀ k b, k < p.length → OwnT base (w.setCell ⟨g, o + k, none⟩ (bv b)) x (p.set k b)) := by
  have hb := fun g hg => h.block_ge (g := g) hg
  have hl := fun g hg => h.block_lt (g := g) hg
  have hr := h.rd
  obtain ⟨g, n, cap, k0, o, q, h1, rfl, hk, rfl, ho⟩ := h
  have hnc : n = (q.map bv).length ∧ n ≤ cap := by
    obtain ⟨a, c, e, hc, -⟩ := (RowV.rd h1).len
    injection e with _ e1 e2
    exact ⟨e1, by rw [e1, e2]; exact hc⟩
  obtain ⟨rfl, hcap⟩ := hnc
  have lq : (q.map bv).length = q.length := List.length_map _
  have dl : (q.drop k0).length = (q.map bv).length - k0 := by rw [List.length_drop]; omega
  refine ⟨g, o, cap - k0, by rw [dl], hb g rfl, hl g rfl, fun k hkk => ?_, fun k b hkk => ?_⟩
  · obtain ⟨ao, c, e, -, -, H⟩ := hr
    obtain ⟨g', o', e1, -, e2⟩ := H k (by rw [List.length_map]; exact hkk)
    injection e with e _ _
    rw [e1] at e
    injection e with e
    injection e with e3 e4
    subst e3 e4
    refine ⟨?_, ?_⟩
    · rw [e2, List.getElem_map, List.getD_eq_getElem?_getD, List.getElem?_eq_getElem hkk]; rfl
    · rcases h1.2 with ⟨e5, _⟩ | ⟨g2, cap2, cur2, e5, _, hh2, _⟩
      · cases e5
      · injection e5 with e5
        injection e5 with e5
        injection e5 with e5
        subst e5
        simp [World.frozen?, hh2]
  · have hko : o = k0 := ho (by omega)
    subst hko
    obtain ⟨r, -⟩ := World.ownsRow.stored h1 (o + k) (bv b)
    refine ⟨g, (q.map bv).length, cap, o, o, q.set (o + k) b, ?_, rfl, hk, ?_, fun _ => rfl⟩
    · unfold RowB RowV
      rw [List.map_set, List.length_set]
      exact r
    · rw [List.drop_set]
      simp
      intro hlt
      omega
theorem TlsF.put {bz base Z N : Nat} {w : World} {ga ca : Nat} {C : Nat → List Nat} (h : TlsF bz base Z N w (.slice (some ⟨ga, 0, none⟩) N ca) C) (i : Nat) (hi : i < N) : ∃ g o c, w.cell? ⟨ga, i, none⟩ = some (.slice (some ⟨g, o, none⟩) (C i).length c) ∧ base ≤ g ∧ g < Z ∧ g < w.heap.size ∧ (∀ k, k < (C i).length → w.cell? ⟨g, o + k, none⟩ = some (bv ((C i).getD k 0)) ∧ w.frozen? ⟨g, o + k, none⟩ = false) ∧
    ∀ k b, k < (C i).length → TlsF bz base Z N (w.setCell ⟨g, o + k, none⟩ (bv b)) (.slice (some ⟨ga, 0, none⟩) N ca) (fun j => if j = i then (C i).set k b else C j) := by
  obtain ⟨vs, h1, h2, h3, h4⟩ := h.row
  obtain ⟨y, ey, oy, ly⟩ := h3 i hi
  obtain ⟨g, o, c, rfl, bg, lg, cl, st⟩ := oy.at
  refine ⟨g, o, c, ?_, bg, ly g rfl, lg, cl, fun k b hk => ?_⟩
  · obtain ⟨ao, cc, e, -, -, H⟩ := RowV.rd h1
    obtain ⟨g', o', e1, -, e2⟩ := H i (by omega)
    injection e with e _ _
    rw [e1] at e
    injection e with e
    injection e with e3 e4
    subst e3 e4
    rw [Nat.zero_add] at e2
    rw [e2]
    rw [List.getElem?_eq_getElem (by omega)] at ey
    exact ey
  · have kk := setCell_kp w g (o + k) (bv b)
    refine ⟨vs, RowV.kp h1 kk (fun g' hg' e => ?_), h2, fun j hj => ?_, h4⟩
    · subst e; exact oy.ne h1 (by decide) (g := g') rfl hg'
    · by_cases hji : j = i
      · subst hji
        rw [if_pos rfl]
        exact ⟨_, ey, st k b hk, ly⟩
      · rw [if_neg hji]
        obtain ⟨y', ey', oy', ly'⟩ := h3 j hj
        refine ⟨y', ey', ?_, ly'⟩
        have hne := h4 i j _ _ (fun e => hji e.symm) ey ey' g rfl
        exact oy'.kept (row := some g) ⟨kk.os, kk.tape, kk.output, kk.size, fun k' hk' hn' => kk.block k' hk' (fun e => hn' (by rw [e]))⟩ (fun g' hg' e => by injection e with e; subst e; exact hne hg')
end Go.Proofs.YtcmfehabcklbpaaDoor

namespace Go.Proofs.YtcmfehabcklbpaaDoor
open Go.RowKit JM

set_option maxRecDepth 100000 in
set_option maxHeartbeats 2000000 in
theorem recovered_okx0 (R : Nat) (S : Nat → Prop) (t t1 t2 : Dk) (x0 x1 : List Nat) (ep n m : Nat) (sn : List Nat) (rs : List (List Nat)) (w : World) (hx0 : t.b0 = x0) (hx1 : t.b1 = x1) (hw : 0 ≤ t.wr ∧ t.wr < 1152921504606846976) (hdn : t.dn = false) (hn : newest x0 x1 = some (0, ep, sn, n)) (hrs : recs (x0.drop n) = (rs, m)) (hc1 : t.cut 0 x0.length (n + m) = (t1, 0)) (hc2 : t1.cut 1 x1.length 0 = (t2, 0))
    (hnm : n + m ≤ x0.length) (h : DkAt R S t w) (hS : ∀ g, S g → g < w.heap.size) (hb0 : ∀ b ∈ x0, b < 256) (hb1 : ∀ b ∈ x1, b < 256) (hl0 : x0.length ≤ 1000000000000) (hl1 : x1.length ≤ 1000000000000) (hT : TabS w) :
    Calls Tryd.prog 33 #[stV R] w fun e w' => ∃ G sv rv S', e = .returned (.tuple #[.pointer (some ⟨G, 0, none⟩), .agg (rcL (ep : Int) sv rv ((x0.length : Int) - ((n + m : Nat) : Int))).toArray, .int .i64 0]) ∧ Blk G 72 (jnL R 0 (ep : Int) (rs.length : Int) false) w' ∧
      DkAt R S' t2 w' ∧ (∀ g, S' g → S g ∨ w.heap.size ≤ g) ∧ ¬ S' G ∧ Kp S w w' ∧ w.heap.size ≤ G ∧ OwnT w.heap.size w' sv sn ∧ ∃ Y Z, w.heap.size ≤ Y ∧ Y ≤ Z ∧ (∀ g, S' g → S g ∨ Z ≤ g) ∧ (∀ g, sv.ownBlock = some g → g < Y) ∧ TlsX Y Z w' rv rs := by
  have b0 : Below w.heap.size w (w.alloc (.cells rcZ.toArray 34)) := below_alloc _ _
  have RB : Hid (Calls Tryd.prog 43 #[stV R] (w.alloc (.cells #[.int .i64 0, .slice none 0 0, .slice none 0 0, .int .i64 0] 34)) fun e w' => Below w.heap.size w w' ∧ Blk w.heap.size 34 rcZ w' ∧ ∃ a0 c0 a1 c1, e = .returned (.tuple #[.agg #[.slice a0 x0.length c0, .slice a1 x1.length c1], .int .i64 0]) ∧ RdB w' (.slice a0 x0.length c0) x0 ∧ RdB w' (.slice a1 x1.length c1) x1) := (readBoth_at R S t (w.alloc (.cells rcZ.toArray 34)) (h.below b0)).mono fun e w' ⟨h1, h2⟩ => ⟨below_trans b0 (h1.mono (by simp)), (Blk.new 34 rcZ w).below h1, by
    rw [if_neg (by rw [hdn]; decide), hx0, hx1] at h2
    obtain ⟨a0, c0, a1, c1, e, r0, r1⟩ := h2
    exact ⟨a0, c0, a1, c1, e, RowV.rd r0, RowV.rd r1⟩⟩
  have NW : Hid (∀ a0 c0 a1 c1 w3, Below w.heap.size w w3 → RdB w3 (.slice a0 x0.length c0) x0 → RdB w3 (.slice a1 x1.length c1) x1 → Calls Tryd.prog 45 #[.agg #[.slice a0 x0.length c0, .slice a1 x1.length c1]] w3 fun e w' => ∃ a c, e = .returned (.tuple #[.int .i64 0, .agg (hdL ep (.slice a sn.length c) n).toArray, .bool true]) ∧ Below w3.heap.size w3 w' ∧ OwnT w3.heap.size w' (.slice a sn.length c) sn) := fun a0 c0 a1 c1 w3 b3 r0 r1 => (newest_at x0 x1 a0 a1 c0 c1 w3 hb0 hb1 hl0 hl1 r0 r1 (hT.below b3)).mono fun e w' ⟨h1, hv, h2, h3⟩ => by
    rw [hn] at h2 h3
    obtain ⟨a, c, rfl, ow⟩ := h3
    exact ⟨a, c, h2, h1, ow⟩
  have HN := newest_some hn
  have hle : n ≤ x0.length ∧ 1 ≤ ep ∧ ep ≤ 9223372036854775807 := by
    rcases HN with ⟨_, e⟩ | ⟨_, e⟩
    · first | exact hdF_le e | omega
    · first | exact hdF_le e | omega
  have RR : Hid (∀ a1 c1 w', Below w.heap.size w w' → RdB w' (.slice a1 x0.length c1) x0 → Calls Tryd.prog 46 #[.slice a1 x0.length c1, .int .i64 (n : Int)] w' (RcAns w' n (rs, m))) := fun a1 c1 w' b1 r1 => by
    have := readRecords_at x0 n (.slice a1 x0.length c1) w' hle.1 hb0 hl0 r1 (hT.below b1)
    rwa [hrs] at this
  have WA := cut_wr t 0 x0.length (n + m)
  rw [hc1] at WA
  have C1 : Hid (∀ S1 wr a1 c1, DkAt R S1 t wr → Calls Tryd.prog 44 #[stV R, .int .i64 0, .slice a1 x0.length c1, .int .i64 ((n + m : Nat) : Int)] wr fun e w' => e = .returned (.int .i64 0) ∧ DkPost R S1 wr t1 w') := fun S1 wr a1 c1 d => by
    have := jcut_at R S1 t wr 0 a1 x0.length c1 (n + m) ⟨hw.1, by omega⟩ d
    rwa [hc1] at this
  have C2 : Hid (∀ S1 wr a1 c1, DkAt R S1 t1 wr → Calls Tryd.prog 44 #[stV R, .int .i64 1, .slice a1 x1.length c1, .int .i64 0] wr fun e w' => e = .returned (.int .i64 0) ∧ DkPost R S1 wr t2 w') := fun S1 wr a1 c1 d => by
    have := jcut_at R S1 t1 wr 1 a1 x1.length c1 0 ⟨by simp at WA; omega, by simp at WA; omega⟩ d
    rwa [hc2] at this
  have OT : Hid (∀ w1, Calls Tryd.prog 38 #[.int .i64 0] w1 fun e w' => e = .returned (.int .i64 1) ∧ w1 = w') := fun w1 => (other_at 0 (by omega) w1).mono fun e w' h => ⟨h.1, h.2.symm⟩
  have DK : Hid (∀ w1, Below w.heap.size w w1 → DkAt R S t w1) := fun w1 b1 => h.below b1
  have NS : Hid (∀ g, w.heap.size ≤ g → ¬ S g) := fun g hg hs => by have := hS g hs; omega
  have lnm : n + m ≤ 1000000000000 := by omega
  have lxf : x0.length ≤ 1000000000000 := hl0
  have LX : Hid (n + m ≤ x0.length ∧ x0.length ≤ 1000000000000 ∧ n + m ≤ 1000000000000) := ⟨hnm, lxf, lnm⟩
  clear h hdn b0 hn hb0 hb1 hl0 hl1 hT hx0 hx1 hw hrs hc1 hc2 hS HN hle WA hnm lnm lxf
  go_enter Tryd.func33, Tryd.ntmps33
  go_wp2_with fail
  refine RB.out.mono ?_
  rintro e w2 ⟨b2, k2, a0, c0, a1, c1, rfl, r0, r1⟩
  have B2 : Hid (Below w.heap.size w w2 ∧ Blk w.heap.size 34 rcZ w2) := ⟨b2, k2⟩
  have D2 : Hid (RdB w2 (.slice a0 x0.length c0) x0 ∧ RdB w2 (.slice a1 x1.length c1) x1) := ⟨r0, r1⟩
  clear b2 k2 RB r0 r1
  go_upto_region 2 with (first
    | ((with_reducible refine at_store ?_); refine step_store rfl 83 _ _ rfl w2.heap.size 0 83 z2 [.slice a0 x0.length c0, .slice a1 x1.length c1] rfl rfl (Blk.new 83 z2 w2) (Nat.le_refl _) rfl (two_one _ _ _ _ _ _) ?_; intro w3 nb g3; have B3 : Hid (Below w.heap.size w w3 ∧ Blk w.heap.size 34 rcZ w3 ∧ Blk w2.heap.size 83 [.slice a0 x0.length c0, .slice a1 x1.length c1] w3 ∧ Below w2.heap.size w2 w3) := ⟨below_row (below_trans B2.out.1 (below_alloc _ _)) g3 B2.out.1.size, (B2.out.2.old _).grown g3 (by have := B2.out.2.lt; omega), blk_put (Nat.le_refl _) nb, below_row (below_alloc _ _) g3 (Nat.le_refl _)⟩; clear nb g3))
  have N3 : Hid (Calls Tryd.prog 45 #[.agg #[.slice a0 x0.length c0, .slice a1 x1.length c1]] w3 fun e w' => ∃ a c, e = .returned (.tuple #[.int .i64 0, .agg (hdL ep (.slice a sn.length c) n).toArray, .bool true]) ∧ Below w3.heap.size w3 w' ∧ OwnT w3.heap.size w' (.slice a sn.length c) sn) := NW.out a0 c0 a1 c1 w3 B3.out.1 (D2.out.1.later B3.out.2.2.2) (D2.out.2.later B3.out.2.2.2)
  have HB : Hid (w.heap.size < w2.heap.size) := B2.out.2.lt
  clear NW B2
  obtain ⟨P5, hP5⟩ : ∃ P5, w2.heap.size = P5 := ⟨_, rfl⟩
  have D3 : Hid (RdB w3 (.slice a0 x0.length c0) x0) := D2.out.1.later B3.out.2.2.2
  have B3' : Hid (Below w.heap.size w w3 ∧ Blk w.heap.size 34 rcZ w3 ∧ Blk P5 83 [.slice a0 x0.length c0, .slice a1 x1.length c1] w3) := ⟨B3.out.1, B3.out.2.1, hP5 ▸ B3.out.2.2.1⟩
  rw [hP5] at HB ⊢
  clear hP5 D2 B3
  go_wp2_with (refine step_load rfl 83 _ rfl P5 0 rfl [.slice a0 x0.length c0, .slice a1 x1.length c1] _ B3'.out.2.2.all Tryd.underlying83 rfl rfl ?_)
  refine N3.out.mono ?_
  rintro e w4 ⟨a, c, rfl, b4, ow⟩
  have B4 : Hid (Below w.heap.size w w4 ∧ Blk w.heap.size 34 rcZ w4 ∧ Blk P5 83 [.slice a0 x0.length c0, .slice a1 x1.length c1] w4 ∧ OwnT (w.heap.size + 1) w4 (.slice a sn.length c) sn ∧ RdB w4 (.slice a0 x0.length c0) x0 ∧ (∀ g, (Value.slice a0 x0.length c0).ownBlock = some g → True)) := ⟨below_trans B3'.out.1 b4, B3'.out.2.1.below b4, B3'.out.2.2.below b4, ow.mono (by have := B3'.out.2.1.lt; omega), D3.out.later b4, fun _ _ => trivial⟩
  clear b4 B3' N3 ow D3
  go_upto_region 7 with (first
    | ((with_reducible refine at_store ?_); refine step_store rfl 88 _ _ rfl w4.heap.size 0 88 hdZ (hdL ep (.slice a sn.length c) n) rfl rfl (Blk.new 88 hdZ w4) (Nat.le_refl _) rfl (hdL_one _ _ _ _ _) ?_; intro w5 nb g5; have B5 : Hid (Below w.heap.size w w5 ∧ Blk w.heap.size 34 rcZ w5 ∧ Blk P5 83 [.slice a0 x0.length c0, .slice a1 x1.length c1] w5 ∧ Blk w4.heap.size 88 (hdL ep (.slice a sn.length c) n) w5 ∧ OwnT (w.heap.size + 1) w5 (.slice a sn.length c) sn ∧ RdB w5 (.slice a0 x0.length c0) x0 ∧ w.heap.size < w4.heap.size) := ⟨below_row (below_trans B4.out.1 (below_alloc _ _)) g5 B4.out.1.size, (B4.out.2.1.old _).grown g5 (by have := B4.out.2.1.lt; omega), (B4.out.2.2.1.old _).grown g5 (by have := B4.out.2.2.1.lt; omega), blk_put (Nat.le_refl _) nb, (B4.out.2.2.2.1.later (below_alloc _ _)).kept g5 (fun g' hg' e' => by injection e' with e'; have := B4.out.2.2.2.1.block_lt hg'; omega), B4.out.2.2.2.2.1.later (below_row (below_alloc _ _) g5 (Nat.le_refl _)), B4.out.2.1.lt⟩; clear nb g5 B4))
  obtain ⟨P8, hP8⟩ : ∃ P8, w4.heap.size = P8 := ⟨_, rfl⟩
  rw [hP8] at B5 ⊢
  clear hP8
  have HP8 : Hid (w.heap.size < P8) := B5.out.2.2.2.2.2.2
  refine wp_region_held_drew (S := fun w' => Blk P5 83 [.slice a0 x0.length c0, .slice a1 x1.length c1] w' ∧ Blk P8 88 (hdL ep (.slice a sn.length c) n) w') (by kernel_rfl) (⟨B5.out.2.2.1.below (Below.drew (Below.refl _ _)), B5.out.2.2.2.1.below (Below.drew (Below.refl _ _))⟩) (fun hH => ?_)
  refine wpAnyH_take (i := 0) (oi := { dst := some 35, op := Op.move (Operand.tmp 7), type := 3, pos := "recover.go:33", after := #[], guard := none }) (v := .int .i64 0) rfl (by kernel_rfl) (by kernel_rfl) (by kernel_rfl) (fun _ _ _ h => h) (Or.inl ⟨by rfl, fun w' hs => by go_simp⟩) hH ?_
  try simp only [Act.put, List.setIfInBounds_toArray, List.set_cons_zero, List.set_cons_succ]
  refine wpAnyH_take (i := 1) (oi := { dst := some 36, op := Op.indexAddr 83 (Operand.tmp 5) (Operand.tmp 35), type := 0, pos := "recover.go:33", after := #[{ on := 0, ground := Ground.data }], guard := none }) (v := .pointer (some ⟨P5, 0, none⟩)) rfl (by kernel_rfl) (by kernel_rfl) (by kernel_rfl) (fun _ _ _ h => h) (Or.inl ⟨by rfl, fun w' hs => by go_simp⟩) hH ?_
  try simp only [Act.put, List.setIfInBounds_toArray, List.set_cons_zero, List.set_cons_succ]
  refine wpAnyH_take (i := 2) (oi := { dst := some 37, op := Op.load 22 (Operand.tmp 36), type := 22, pos := "recover.go:33", after := #[{ on := 1, ground := Ground.data }], guard := none }) (v := .slice a0 x0.length c0) rfl (by kernel_rfl) (by kernel_rfl) (by kernel_rfl) (fun _ _ _ h => h) (Or.inl ⟨by rfl, fun w' hs => by have c := hs.1.cell 0 _ rfl; go_simp⟩) hH ?_
  try simp only [Act.put, List.setIfInBounds_toArray, List.set_cons_zero, List.set_cons_succ]
  refine wpAnyH_take (i := 3) (oi := { dst := some 38, op := Op.fieldAddr 88 (Operand.tmp 8) 2, type := 0, pos := "recover.go:33", after := #[], guard := none }) (v := .pointer (some ⟨P8, 2, none⟩)) rfl (by kernel_rfl) (by kernel_rfl) (by kernel_rfl) (fun _ _ _ h => h) (Or.inl ⟨by rfl, fun w' hs => by go_simp⟩) hH ?_
  try simp only [Act.put, List.setIfInBounds_toArray, List.set_cons_zero, List.set_cons_succ]
  refine wpAnyH_take (i := 4) (oi := { dst := some 39, op := Op.load 3 (Operand.tmp 38), type := 3, pos := "recover.go:33", after := #[{ on := 3, ground := Ground.data }], guard := none }) (v := .int .i64 (n : Int)) rfl (by kernel_rfl) (by kernel_rfl) (by kernel_rfl) (fun _ _ _ h => h) (Or.inl ⟨by rfl, fun w' hs => by have c := hs.2.cell 2 _ rfl; go_simp⟩) hH ?_
  try simp only [Act.put, List.setIfInBounds_toArray, List.set_cons_zero, List.set_cons_succ]
  refine wpAnyH_ready (rs := [5]) (by kernel_rfl) (by simp) ?_
  refine AllReadyH.cons (o := { dst := some 40, op := Op.call { callee := Callee.value (Operand.func 46), args := #[Operand.tmp 37, Operand.tmp 39], argTypes := #[22, 3] }, type := 91, pos := "recover.go:33", after := #[{ on := 2, ground := Ground.data }, { on := 4, ground := Ground.data }], guard := none }) rfl (fun K hK => ?_) AllReadyH.nil
  go_simp
  refine (RR.out _ _ _ (Below.drew B5.out.1) (B5.out.2.2.2.2.2.1.later (Below.drew (Below.refl _ _)))).mono ?_
  rintro e w6 ⟨ar, cr, rfl, t6, b6⟩
  have bb6 : Below w5.heap.size w5 w6 := below_trans (Below.drew (Below.refl _ _)) b6
  have B6 : Hid (Below w.heap.size w w6 ∧ Blk w.heap.size 34 rcZ w6 ∧ Blk P5 83 [.slice a0 x0.length c0, .slice a1 x1.length c1] w6 ∧ Blk P8 88 (hdL ep (.slice a sn.length c) n) w6 ∧ OwnT (w.heap.size + 1) w6 (.slice a sn.length c) sn ∧ TlsX w5.heap.size w6.heap.size w6 (.slice ar rs.length cr) rs) := ⟨below_trans B5.out.1 bb6, B5.out.2.1.below bb6, B5.out.2.2.1.below bb6, B5.out.2.2.2.1.below bb6, B5.out.2.2.2.2.1.later bb6, t6.x⟩
  have W5 : w.heap.size < w5.heap.size := B5.out.2.1.lt
  have W56 : w5.heap.size ≤ w6.heap.size := bb6.size
  have OU : Hid (∀ g, (Value.slice a sn.length c).ownBlock = some g → g < w5.heap.size) := fun g hg => B5.out.2.2.2.2.1.block_lt hg
  clear t6 b6 bb6
  refine hK.out _ _ ⟨B6.out.2.2.1, B6.out.2.2.2.1⟩ (fun hH => ?_)
  refine wpAnyH_take (i := 6) (oi := { dst := some 34, op := Op.move (Operand.tmp 40), type := 91, pos := "recover.go:33", after := #[{ on := 5, ground := Ground.data }], guard := none }) (v := .tuple #[(.slice ar rs.length cr), .int .i64 ((n + m : Nat) : Int)]) rfl (by kernel_rfl) (by kernel_rfl) (by kernel_rfl) (fun _ _ _ h => h) (Or.inl ⟨by rfl, fun w' hs => by go_simp⟩) hH ?_
  try simp only [Act.put, List.setIfInBounds_toArray, List.set_cons_zero, List.set_cons_succ]
  refine wpAnyH_take (i := 7) (oi := { dst := some 41, op := Op.extract (Operand.tmp 34) 0, type := 32, pos := "recover.go:33", after := #[{ on := 6, ground := Ground.data }], guard := none }) (v := (.slice ar rs.length cr)) rfl (by kernel_rfl) (by kernel_rfl) (by kernel_rfl) (fun _ _ _ h => h) (Or.inl ⟨by rfl, fun w' hs => by go_simp⟩) hH ?_
  try simp only [Act.put, List.setIfInBounds_toArray, List.set_cons_zero, List.set_cons_succ]
  refine wpAnyH_take (i := 8) (oi := { dst := some 42, op := Op.extract (Operand.tmp 34) 1, type := 3, pos := "recover.go:33", after := #[{ on := 6, ground := Ground.data }, { on := 9, ground := Ground.gcOnly Departure.lateStores }], guard := none }) (v := .int .i64 ((n + m : Nat) : Int)) rfl (by kernel_rfl) (by kernel_rfl) (by kernel_rfl) (fun _ _ _ h => h) (Or.inl ⟨by rfl, fun w' hs => by go_simp⟩) hH ?_
  try simp only [Act.put, List.setIfInBounds_toArray, List.set_cons_zero, List.set_cons_succ]
  refine wpAnyH_take (i := 9) (oi := { dst := some 10, op := Op.assign (Operand.tmp 41), type := 32, pos := "recover.go:33", after := #[{ on := 7, ground := Ground.data }, { on := 5, ground := Ground.chain }, { on := 0, ground := Ground.phase }, { on := 1, ground := Ground.phase }, { on := 2, ground := Ground.phase }, { on := 3, ground := Ground.phase }, { on := 4, ground := Ground.phase }, { on := 5, ground := Ground.phase }, { on := 6, ground := Ground.phase }, { on := 7, ground := Ground.phase }, { on := 8, ground := Ground.textOnly Departure.lateStores }], guard := none }) (v := (.slice ar rs.length cr)) rfl (by kernel_rfl) (by kernel_rfl) (by kernel_rfl) (fun _ _ _ h => h) (Or.inl ⟨by rfl, fun w' hs => by go_simp⟩) hH ?_
  try simp only [Act.put, List.setIfInBounds_toArray, List.set_cons_zero, List.set_cons_succ]
  refine wpAnyH_take (i := 10) (oi := { dst := some 11, op := Op.assign (Operand.tmp 42), type := 3, pos := "recover.go:33", after := #[{ on := 8, ground := Ground.data }, { on := 9, ground := Ground.chain }, { on := 0, ground := Ground.phase }, { on := 1, ground := Ground.phase }, { on := 2, ground := Ground.phase }, { on := 3, ground := Ground.phase }, { on := 4, ground := Ground.phase }, { on := 5, ground := Ground.phase }, { on := 6, ground := Ground.phase }, { on := 7, ground := Ground.phase }, { on := 8, ground := Ground.phase }, { on := 9, ground := Ground.phase }], guard := none }) (v := .int .i64 ((n + m : Nat) : Int)) rfl (by kernel_rfl) (by kernel_rfl) (by kernel_rfl) (fun _ _ _ h => h) (Or.inl ⟨by rfl, fun w' hs => by go_simp⟩) hH ?_
  try simp only [Act.put, List.setIfInBounds_toArray, List.set_cons_zero, List.set_cons_succ]
  refine wpAnyH_done (by kernel_rfl) ?_ _
  clear hH hK B5 RR
  have y5 := B6.out.2.2.1.cell 0 _ rfl
  have C1' : Hid (Calls Tryd.prog 44 #[stV R, .int .i64 0, .slice a0 x0.length c0, .int .i64 ((n + m : Nat) : Int)] w6 fun e w' => e = .returned (.int .i64 0) ∧ DkPost R S w6 t1 w') := C1.out S w6 _ _ (DK.out w6 B6.out.1)
  clear C1 DK
  obtain ⟨k, hk⟩ : ∃ k, n + m = k := ⟨_, rfl⟩
  rw [hk] at C1' LX ⊢
  have HK : Hid (n + m = k) := hk
  clear hk
  go_wp2_with fail
  refine C1'.out.mono ?_
  rintro e w7 ⟨rfl, S1, D7, G7, K7⟩
  have K5 : Blk P5 83 [.slice a0 x0.length c0, .slice a1 x1.length c1] w7 := B6.out.2.2.1.kp K7 (NS.out P5 (by have := HB.out; omega))
  have y6 := K5.cell 1 _ rfl
  have C2' : Hid (Calls Tryd.prog 44 #[stV R, .int .i64 1, .slice a1 x1.length c1, .int .i64 0] w7 fun e w' => e = .returned (.int .i64 0) ∧ DkPost R S1 w7 t2 w') := C2.out S1 w7 _ _ D7
  have GG : Hid ((∀ g, S1 g → S g ∨ w6.heap.size ≤ g) ∧ Kp S w6 w7) := ⟨G7, K7⟩
  clear D7 G7 K7 K5 C2 y5 C1'
  go_wp2_with fail
  refine (OT.out _).mono ?_
  rintro e w' ⟨rfl, rfl⟩
  go_wp2_with fail
  refine (OT.out _).mono ?_
  rintro e w' ⟨rfl, rfl⟩
  go_wp2_with fail
  refine C2'.out.mono ?_
  rintro e w8 ⟨rfl, p8⟩
  obtain ⟨S2, D8, G8, K8⟩ := DkPost.trans GG.out.1 GG.out.2 p8
  have B8 : Hid (Blk w.heap.size 34 rcZ w8 ∧ Blk P5 83 [.slice a0 x0.length c0, .slice a1 x1.length c1] w8 ∧ Blk P8 88 (hdL ep (.slice a sn.length c) n) w8 ∧ OwnT (w.heap.size + 1) w8 (.slice a sn.length c) sn ∧ TlsX w5.heap.size w6.heap.size w8 (.slice ar rs.length cr) rs ∧ Kp S w w8 ∧ DkAt R S2 t2 w8 ∧ (∀ g, S2 g → S g ∨ w.heap.size ≤ g)) := ⟨B6.out.2.1.kp K8 (NS.out _ (Nat.le_refl _)), B6.out.2.2.1.kp K8 (NS.out P5 (by have := HB.out; omega)), B6.out.2.2.2.1.kp K8 (NS.out P8 (by have := HP8.out; omega)), B6.out.2.2.2.2.1.kp K8 (fun g hg => NS.out g (by omega)), B6.out.2.2.2.2.2.kp K8 (fun g hg => NS.out g (by omega)), (Kp.of_below B6.out.1 S).trans K8 (fun _ _ h => h), D8, fun g hg => (G8 g hg).imp id (fun h => Nat.le_trans B6.out.1.size h)⟩
  have NH : Hid (¬ S2 w.heap.size) := fun hs => (G8 _ hs).elim (NS.out _ (Nat.le_refl _)) (fun h => by have := B6.out.2.1.lt; omega)
  have GZ : Hid (∀ g, S2 g → S g ∨ w6.heap.size ≤ g) := G8
  have z8 := B8.out.2.2.1.cell 0 _ rfl
  clear p8 D8 G8 K8 GG B6 C2' y6 OT
  go_upto_region 15 with fail
  have B9 : Hid (Blk w.heap.size 34 rcZ (w8.alloc (.cells #[stV R, .int .i64 0, .int .i64 (ep : Int), .int .i64 (rs.length : Int), .bool false] 72)) ∧ Blk P5 83 [.slice a0 x0.length c0, .slice a1 x1.length c1] (w8.alloc (.cells #[stV R, .int .i64 0, .int .i64 (ep : Int), .int .i64 (rs.length : Int), .bool false] 72)) ∧ Blk P8 88 (hdL ep (.slice a sn.length c) n) (w8.alloc (.cells #[stV R, .int .i64 0, .int .i64 (ep : Int), .int .i64 (rs.length : Int), .bool false] 72)) ∧ OwnT (w.heap.size + 1) (w8.alloc (.cells #[stV R, .int .i64 0, .int .i64 (ep : Int), .int .i64 (rs.length : Int), .bool false] 72)) (.slice a sn.length c) sn ∧ TlsX w5.heap.size w6.heap.size (w8.alloc (.cells #[stV R, .int .i64 0, .int .i64 (ep : Int), .int .i64 (rs.length : Int), .bool false] 72)) (.slice ar rs.length cr) rs ∧ Kp S w (w8.alloc (.cells #[stV R, .int .i64 0, .int .i64 (ep : Int), .int .i64 (rs.length : Int), .bool false] 72)) ∧ DkAt R S2 t2 (w8.alloc (.cells #[stV R, .int .i64 0, .int .i64 (ep : Int), .int .i64 (rs.length : Int), .bool false] 72)) ∧ (∀ g, S2 g → S g ∨ w.heap.size ≤ g) ∧ Blk w8.heap.size 72 (jnL R 0 (ep : Int) (rs.length : Int) false) (w8.alloc (.cells #[stV R, .int .i64 0, .int .i64 (ep : Int), .int .i64 (rs.length : Int), .bool false] 72)) ∧ ¬ S2 w8.heap.size ∧ w.heap.size < w8.heap.size) := by
    obtain ⟨v1, v2, v3, v4, v5, v6, v7, v8⟩ := B8.out
    have bb : Below w8.heap.size w8 (w8.alloc (.cells #[stV R, .int .i64 0, .int .i64 (ep : Int), .int .i64 (rs.length : Int), .bool false] 72)) := below_alloc _ _
    exact ⟨v1.below bb, v2.below bb, v3.below bb, v4.later bb, v5.later bb, v6.trans (Kp.of_below bb (fun _ => False)) (fun _ _ h => h.elim), v7.below bb, v8, Blk.new 72 (jnL R 0 (ep : Int) (rs.length : Int) false) w8, fun hs => by have := dkAt_size v7 _ hs; omega, v1.lt⟩
  clear B8 z8
  generalize w8.alloc (.cells #[stV R, .int .i64 0, .int .i64 (ep : Int), .int .i64 (rs.length : Int), .bool false] 72) = w9 at *
  obtain ⟨G, hG⟩ : ∃ G, w8.heap.size = G := ⟨_, rfl⟩
  rw [hG] at B9 ⊢
  clear hG
  have q1 : (k : Int) ≤ (x0.length : Int) := by have := LX.out.1; omega
  have q2 : (x0.length : Int) ≤ 1000000000000 := by have := LX.out.2.1; omega
  have q3 : IntKind.i64.wrap ((x0.length : Int) - (k : Int)) = (x0.length : Int) - (k : Int) := by rw [IntKind.wrap_i64]; omega
  refine wp_region_held_drew (S := fun w' => Blk P5 83 [.slice a0 x0.length c0, .slice a1 x1.length c1] w' ∧ Blk P8 88 (hdL ep (.slice a sn.length c) n) w') (by kernel_rfl) (⟨B9.out.2.1.below (Below.drew (Below.refl _ _)), B9.out.2.2.1.below (Below.drew (Below.refl _ _))⟩) (fun hH => ?_)
  refine wpAnyH_take (i := 0) (oi := { dst := some 74, op := Op.fieldAddr 88 (Operand.tmp 8) 0, type := 0, pos := "recover.go:41", after := #[], guard := none }) (v := .pointer (some ⟨P8, 0, none⟩)) rfl (by kernel_rfl) (by kernel_rfl) (by kernel_rfl) (fun _ _ _ h => h) (Or.inl ⟨by rfl, fun w' hs => by go_simp⟩) hH ?_
  try simp only [Act.put, List.setIfInBounds_toArray, List.set_cons_zero, List.set_cons_succ]
  refine wpAnyH_take (i := 1) (oi := { dst := some 75, op := Op.load 3 (Operand.tmp 74), type := 3, pos := "recover.go:41", after := #[{ on := 0, ground := Ground.data }], guard := none }) (v := .int .i64 (ep : Int)) rfl (by kernel_rfl) (by kernel_rfl) (by kernel_rfl) (fun _ _ _ h => h) (Or.inl ⟨by rfl, fun w' hs => by have c := hs.2.cell 0 _ rfl; go_simp⟩) hH ?_
  try simp only [Act.put, List.setIfInBounds_toArray, List.set_cons_zero, List.set_cons_succ]
  refine wpAnyH_take (i := 2) (oi := { dst := some 76, op := Op.fieldAddr 88 (Operand.tmp 8) 1, type := 0, pos := "recover.go:41", after := #[], guard := none }) (v := .pointer (some ⟨P8, 1, none⟩)) rfl (by kernel_rfl) (by kernel_rfl) (by kernel_rfl) (fun _ _ _ h => h) (Or.inl ⟨by rfl, fun w' hs => by go_simp⟩) hH ?_
  try simp only [Act.put, List.setIfInBounds_toArray, List.set_cons_zero, List.set_cons_succ]
  refine wpAnyH_take (i := 3) (oi := { dst := some 77, op := Op.load 22 (Operand.tmp 76), type := 22, pos := "recover.go:41", after := #[{ on := 2, ground := Ground.data }], guard := none }) (v := (.slice a sn.length c)) rfl (by kernel_rfl) (by kernel_rfl) (by kernel_rfl) (fun _ _ _ h => h) (Or.inl ⟨by rfl, fun w' hs => by have c := hs.2.cell 1 _ rfl; go_simp⟩) hH ?_
  try simp only [Act.put, List.setIfInBounds_toArray, List.set_cons_zero, List.set_cons_succ]
  refine wpAnyH_take (i := 4) (oi := { dst := some 78, op := Op.move (Operand.tmp 10), type := 32, pos := "recover.go:41", after := #[], guard := none }) (v := (.slice ar rs.length cr)) rfl (by kernel_rfl) (by kernel_rfl) (by kernel_rfl) (fun _ _ _ h => h) (Or.inl ⟨by rfl, fun w' hs => by go_simp⟩) hH ?_
  try simp only [Act.put, List.setIfInBounds_toArray, List.set_cons_zero, List.set_cons_succ]
  refine wpAnyH_take (i := 5) (oi := { dst := some 79, op := Op.move (Operand.tmp 7), type := 3, pos := "recover.go:41", after := #[], guard := none }) (v := .int .i64 0) rfl (by kernel_rfl) (by kernel_rfl) (by kernel_rfl) (fun _ _ _ h => h) (Or.inl ⟨by rfl, fun w' hs => by go_simp⟩) hH ?_
  try simp only [Act.put, List.setIfInBounds_toArray, List.set_cons_zero, List.set_cons_succ]
  refine wpAnyH_take (i := 6) (oi := { dst := some 80, op := Op.indexAddr 83 (Operand.tmp 5) (Operand.tmp 79), type := 0, pos := "recover.go:41", after := #[{ on := 5, ground := Ground.data }], guard := none }) (v := .pointer (some ⟨P5, 0, none⟩)) rfl (by kernel_rfl) (by kernel_rfl) (by kernel_rfl) (fun _ _ _ h => h) (Or.inl ⟨by rfl, fun w' hs => by go_simp⟩) hH ?_
  try simp only [Act.put, List.setIfInBounds_toArray, List.set_cons_zero, List.set_cons_succ]
  refine wpAnyH_take (i := 7) (oi := { dst := some 81, op := Op.load 22 (Operand.tmp 80), type := 22, pos := "recover.go:41", after := #[{ on := 6, ground := Ground.data }], guard := none }) (v := .slice a0 x0.length c0) rfl (by kernel_rfl) (by kernel_rfl) (by kernel_rfl) (fun _ _ _ h => h) (Or.inl ⟨by rfl, fun w' hs => by have c := hs.1.cell 0 _ rfl; go_simp⟩) hH ?_
  try simp only [Act.put, List.setIfInBounds_toArray, List.set_cons_zero, List.set_cons_succ]
  refine wpAnyH_take (i := 8) (oi := { dst := some 82, op := Op.call { callee := Callee.builtin Builtin.len, args := #[Operand.tmp 81], argTypes := #[22] }, type := 3, pos := "recover.go:41", after := #[{ on := 7, ground := Ground.data }], guard := none }) (v := .int .i64 (x0.length : Int)) rfl (by kernel_rfl) (by kernel_rfl) (by kernel_rfl) (fun _ _ _ h => h) (Or.inl ⟨by rfl, fun w' hs => by go_simp⟩) hH ?_
  try simp only [Act.put, List.setIfInBounds_toArray, List.set_cons_zero, List.set_cons_succ]
  refine wpAnyH_take (i := 9) (oi := { dst := some 83, op := Op.move (Operand.tmp 11), type := 3, pos := "recover.go:41", after := #[], guard := none }) (v := .int .i64 (k : Int)) rfl (by kernel_rfl) (by kernel_rfl) (by kernel_rfl) (fun _ _ _ h => h) (Or.inl ⟨by rfl, fun w' hs => by go_simp⟩) hH ?_
  try simp only [Act.put, List.setIfInBounds_toArray, List.set_cons_zero, List.set_cons_succ]
  refine wpAnyH_take (i := 10) (oi := { dst := some 84, op := Op.binOp BinOp.sub 3 (Operand.tmp 82) (Operand.tmp 83) 3, type := 3, pos := "recover.go:41", after := #[{ on := 8, ground := Ground.data }, { on := 9, ground := Ground.data }], guard := none }) (v := .int .i64 ((x0.length : Int) - (k : Int))) rfl (by kernel_rfl) (by kernel_rfl) (by kernel_rfl) (fun _ _ _ h => h) (Or.inl ⟨by rfl, fun w' hs => by go_simp⟩) hH ?_
  try simp only [Act.put, List.setIfInBounds_toArray, List.set_cons_zero, List.set_cons_succ]
  refine wpAnyH_take (i := 11) (oi := { dst := some 85, op := Op.build 34 #[(0, Operand.tmp 75), (1, Operand.tmp 77), (2, Operand.tmp 78), (3, Operand.tmp 84)], type := 34, pos := "recover.go:41", after := #[{ on := 1, ground := Ground.data }, { on := 3, ground := Ground.data }, { on := 4, ground := Ground.data }, { on := 10, ground := Ground.data }], guard := none }) (v := .agg #[.int .i64 (ep : Int), (.slice a sn.length c), (.slice ar rs.length cr), .int .i64 ((x0.length : Int) - (k : Int))]) rfl (by kernel_rfl) (by kernel_rfl) (by kernel_rfl) (fun _ _ _ h => h) (Or.inl ⟨by rfl, fun w' hs => by go_simp⟩) hH ?_
  try simp only [Act.put, List.setIfInBounds_toArray, List.set_cons_zero, List.set_cons_succ]
  refine wpAnyH_ready (rs := [12]) (by kernel_rfl) (by simp) ?_
  refine AllReadyH.cons (o := { dst := some 15, op := Op.alloc 34, type := 0, pos := "recover.go:41", after := #[], guard := none }) rfl (fun K hK => ?_) AllReadyH.nil
  go_simp
  have N0 : Blk w9.heap.size 34 rcZ (w9.alloc (.cells #[.int .i64 0, .slice none 0 0, .slice none 0 0, .int .i64 0] 34)).drew := (Blk.new 34 rcZ w9).below (Below.drew (Below.refl _ _))
  have LT : Hid (P5 < w9.heap.size ∧ P8 < w9.heap.size ∧ G < w9.heap.size ∧ w.heap.size < w9.heap.size) := ⟨B9.out.2.1.lt, B9.out.2.2.1.lt, B9.out.2.2.2.2.2.2.2.2.1.lt, B9.out.1.lt⟩
  have BA : Below w9.heap.size w9 (w9.alloc (.cells #[.int .i64 0, .slice none 0 0, .slice none 0 0, .int .i64 0] 34)).drew := Below.drew (below_alloc _ _)
  generalize (w9.alloc (.cells #[.int .i64 0, .slice none 0 0, .slice none 0 0, .int .i64 0] 34)).drew = wA at *
  refine hK.out _ _ ⟨B9.out.2.1.below BA, B9.out.2.2.1.below BA⟩ (fun hH => ?_)
  try simp only [Act.put, List.setIfInBounds_toArray, List.set_cons_zero, List.set_cons_succ]
  refine wpAnyH_ready (rs := [13]) (by kernel_rfl) (by simp) ?_
  refine AllReadyH.cons (o := { dst := none, op := Op.store 34 (Operand.tmp 15) (Operand.tmp 85), type := 0, pos := "recover.go:41", after := #[{ on := 12, ground := Ground.data }, { on := 11, ground := Ground.data }, { on := 0, ground := Ground.phase }, { on := 1, ground := Ground.phase }, { on := 2, ground := Ground.phase }, { on := 3, ground := Ground.phase }, { on := 4, ground := Ground.phase }, { on := 5, ground := Ground.phase }, { on := 6, ground := Ground.phase }, { on := 7, ground := Ground.phase }, { on := 8, ground := Ground.phase }, { on := 9, ground := Ground.phase }, { on := 10, ground := Ground.phase }, { on := 11, ground := Ground.phase }, { on := 12, ground := Ground.phase }], guard := none }) rfl (fun K hK => ?_) AllReadyH.nil
  refine op_putJ (zs := rcZ) (rcL (ep : Int) (.slice a sn.length c) (.slice ar rs.length cr) ((x0.length : Int) - (k : Int))) rfl rfl (rcL_one _ _ _ _ _ _ _ _) rfl _ _ rfl w9.heap.size rfl rfl N0 ?_
  intro wB bB gB
  have KW : Hid (Kp (fun g => g = w9.heap.size) w9 wB ∧ Blk w9.heap.size 34 (rcL (ep : Int) (.slice a sn.length c) (.slice ar rs.length cr) ((x0.length : Int) - (k : Int))) wB) := ⟨(Kp.of_below BA (fun g => g = w9.heap.size)).trans (Kp.of_grown gB) (fun g _ h => by injection h with h; exact h.symm), bB⟩
  refine hK.out _ _ ⟨hH.1.grown gB (by have := LT.out; omega), hH.2.grown gB (by have := LT.out; omega)⟩ (fun hH => ?_)
  try simp only [Act.put]
  refine wpAnyH_done (by kernel_rfl) ?_ _
  have BB : Hid (Blk w.heap.size 34 rcZ wB ∧ OwnT (w.heap.size + 1) wB (.slice a sn.length c) sn ∧ TlsX w5.heap.size w6.heap.size wB (.slice ar rs.length cr) rs ∧ Kp S w wB ∧ DkAt R S2 t2 wB ∧ (∀ g, S2 g → S g ∨ w.heap.size ≤ g) ∧ Blk G 72 (jnL R 0 (ep : Int) (rs.length : Int) false) wB ∧ ¬ S2 G ∧ w.heap.size < G ∧ Blk w9.heap.size 34 (rcL (ep : Int) (.slice a sn.length c) (.slice ar rs.length cr) ((x0.length : Int) - (k : Int))) wB) := by
    obtain ⟨v1, v2, v3, v4, v5, v6, v7, v8, v9, v10, v11⟩ := B9.out
    have bb : Below w9.heap.size w9 wB := KW.out.1.below (fun g h => by omega)
    exact ⟨v1.below bb, v4.later bb, v5.later bb, v6.trans (Kp.of_below bb (fun _ => False)) (fun _ _ h => h.elim), v7.below bb, v8, v9.below bb, v10, v11, KW.out.2⟩
  clear hH hK B9 KW bB gB N0 BA
  go_upto_region 16 with fail
  refine wp_region_held_drew (S := fun w' => (∃ zs, zs.length = 4 ∧ Blk w.heap.size 34 zs w') ∧ Blk w9.heap.size 34 (rcL (ep : Int) (.slice a sn.length c) (.slice ar rs.length cr) ((x0.length : Int) - (k : Int))) w') (by kernel_rfl) (⟨⟨_, rfl, BB.out.1.below (Below.drew (Below.refl _ _))⟩, BB.out.2.2.2.2.2.2.2.2.2.below (Below.drew (Below.refl _ _))⟩) (fun hH => ?_)
  refine wpAnyH_take (i := 0) (oi := { dst := some 86, op := Op.move (Operand.tmp 14), type := 31, pos := "recover.go:42", after := #[], guard := none }) (v := .pointer (some ⟨G, 0, none⟩)) rfl (by kernel_rfl) (by kernel_rfl) (by kernel_rfl) (fun _ _ _ h => h) (Or.inl ⟨by rfl, fun w' hs => by go_simp⟩) hH ?_
  try simp only [Act.put, List.setIfInBounds_toArray, List.set_cons_zero, List.set_cons_succ]
  refine wpAnyH_take (i := 1) (oi := { dst := some 87, op := Op.load 34 (Operand.tmp 15), type := 34, pos := "recover.go:42", after := #[{ on := 2, ground := Ground.gcOnly Departure.lateStores }], guard := none }) (v := .agg (rcL (ep : Int) (.slice a sn.length c) (.slice ar rs.length cr) ((x0.length : Int) - (k : Int))).toArray) rfl (by kernel_rfl) (by kernel_rfl) (by kernel_rfl) (fun _ _ _ h => h) (yieldsIf_load_mid (by rfl) _ _ rfl _ 0 rfl (rcL (ep : Int) (.slice a sn.length c) (.slice ar rs.length cr) ((x0.length : Int) - (k : Int))) _ (fun w' h => h.2.all) Tryd.underlying34 rfl rfl) hH ?_
  try simp only [Act.put, List.setIfInBounds_toArray, List.set_cons_zero, List.set_cons_succ]
  refine wpAnyH_take (i := 2) (oi := { dst := some 2, op := Op.assign (Operand.tmp 86), type := 31, pos := "recover.go:42", after := #[{ on := 0, ground := Ground.data }, { on := 0, ground := Ground.phase }, { on := 1, ground := Ground.textOnly Departure.lateStores }], guard := none }) (v := .pointer (some ⟨G, 0, none⟩)) rfl (by kernel_rfl) (by kernel_rfl) (by kernel_rfl) (fun _ _ _ h => h) (Or.inl ⟨by rfl, fun w' hs => by go_simp⟩) hH ?_
  try simp only [Act.put, List.setIfInBounds_toArray, List.set_cons_zero, List.set_cons_succ]
  refine wpAnyH_ready (rs := [3]) (by kernel_rfl) (by simp) ?_
  refine AllReadyH.cons (o := { dst := none, op := Op.store 34 (Operand.tmp 3) (Operand.tmp 87), type := 0, pos := "recover.go:42", after := #[{ on := 1, ground := Ground.data }, { on := 2, ground := Ground.chain }, { on := 0, ground := Ground.phase }, { on := 1, ground := Ground.phase }, { on := 2, ground := Ground.phase }], guard := none }) rfl (fun K hK => ?_) AllReadyH.nil
  obtain ⟨zs, zl, zb⟩ := hH.1
  refine op_putJ (rcL (ep : Int) (.slice a sn.length c) (.slice ar rs.length cr) ((x0.length : Int) - (k : Int))) (by rw [zl]; rfl) rfl (rcL_one _ _ _ _ _ _ _ _) rfl _ _ rfl w.heap.size rfl rfl zb ?_
  intro wC bC gC
  have BC : Hid (Kp (fun g => g = w.heap.size) wB wC ∧ Blk w.heap.size 34 (rcL (ep : Int) (.slice a sn.length c) (.slice ar rs.length cr) ((x0.length : Int) - (k : Int))) wC) := ⟨(Kp.of_below (Below.drew (Below.refl _ _)) (fun g => g = w.heap.size)).trans (Kp.of_grown gC) (fun g _ h => by injection h with h; exact h.symm), bC⟩
  refine hK.out _ _ ⟨⟨_, rfl, bC⟩, hH.2.grown gC (by have := LT.out; omega)⟩ (fun hH => ?_)
  try simp only [Act.put]
  refine wpAnyH_take (i := 4) (oi := { dst := some 4, op := Op.assign (Operand.const (Value.int IntKind.i64 0)), type := 27, pos := "recover.go:42", after := #[{ on := 3, ground := Ground.chain }, { on := 0, ground := Ground.phase }, { on := 1, ground := Ground.phase }, { on := 2, ground := Ground.phase }, { on := 3, ground := Ground.phase }], guard := none }) (v := .int .i64 0) rfl (by kernel_rfl) (by kernel_rfl) (by kernel_rfl) (fun _ _ _ h => h) (Or.inl ⟨by rfl, fun w' hs => by go_simp⟩) hH ?_
  try simp only [Act.put, List.setIfInBounds_toArray, List.set_cons_zero, List.set_cons_succ]
  refine wpAnyH_done (by kernel_rfl) ?_ _
  clear hH hK zb zl bC gC
  go_wp2_with fail
  refine ret_tmp_blk_tmp rfl rfl w.heap.size 34 (rcL (ep : Int) (.slice a sn.length c) (.slice ar rs.length cr) ((x0.length : Int) - (k : Int))) _ rfl BC.out.2 Tryd.underlying34 rfl rfl ?_
  obtain ⟨v1, v2, v3, v4, v5, v6, v7, v8, v9, v10⟩ := BB.out
  have nH : ¬ S2 w.heap.size := NH.out
  have kc := BC.out.1
  refine ⟨G, (.slice a sn.length c), (.slice ar rs.length cr), S2, ?_, v7.kp kc (by omega), v5.kp kc (fun g hg e => nH (e ▸ hg)), v6, v8, v4.trans kc (fun g hg e => by omega), by omega, (v2.kp kc (fun g hg => by omega)).mono (by omega), ⟨w5.heap.size, w6.heap.size, Nat.le_of_lt W5, W56, GZ.out, OU.out, v3.kp kc (fun g hg => by omega)⟩⟩
  rw [← HK.out]
  rfl


theorem open_okx (R : Nat) (S : Nat → Prop) (x : List Nat) (ep : Nat) (sn : List Nat) (rs : List (List Nat)) (wr : Int) (w : World) (hj : Jr (D2 0 (jf ep sn rs) [] wr) 0 ep sn rs []) (hw : 0 ≤ wr ∧ wr < 1000000000) (h : DkAt R S (D2 0 (jf ep sn rs) [] wr) w) (hT : TabS w) (_hx : x = jf ep sn rs) :
    Calls Tryd.prog 12 #[.pointer (some ⟨R, 0, none⟩)] w fun e w' => ∃ G a1 c1 a2 c2, ∃ (S' : Nat → Prop), e = .returned (.tuple #[.pointer (some ⟨G, 0, none⟩), .agg #[.int .i64 (ep : Int), .slice a1 sn.length c1, .slice a2 rs.length c2, .int .i64 0], .int .i64 0]) ∧ DkAt R S' (D2 0 (jf ep sn rs) [] wr) w' ∧ (∀ g, S' g → S g ∨ w.heap.size ≤ g) ∧ Kp S w w' ∧ OwnT w.heap.size w' (.slice a1 sn.length c1) sn ∧ ∃ Y Z, w.heap.size ≤ Y ∧ Y ≤ Z ∧ Z ≤ w'.heap.size ∧ (∀ g, S' g → S g ∨ Z ≤ g) ∧ (∀ g, (Value.slice a1 sn.length c1).ownBlock = some g → g < Y) ∧ TlsX Y Z w' (.slice a2 rs.length c2) rs := by
  have hS := dkAt_size h
  have b0 : Below w.heap.size w (w.alloc (.cells rcZ.toArray 34)) := below_alloc _ _
  have sz : (w.alloc (.cells rcZ.toArray 34)).heap.size = w.heap.size + 1 := by simp
  have nz := Blk.new 34 rcZ w
  have nS : ¬ S w.heap.size := fun hs => by have := hS _ hs; omega
  have l0 := h.1.l0
  have l1 := h.1.l1
  have hA := recovered_okx0 R S _ _ _ _ _ ep _ _ sn rs _ rfl rfl (by rw [D2_wr]; omega) (D2_dn _ _ _ _) hj.newest hj.recs (D2_cut (f := 0) (jf ep sn rs) [] wr (jf_len ep sn rs)) (D2_cuto (f := 0) (.inl rfl) (jf ep sn rs) [] wr) (by have := jf_len ep sn rs; show _ ≤ (jf ep sn rs).length; omega) (h.below b0) (dkAt_size (h.below b0)) hj.xb hj.ob (by omega) (by omega) (hT.below b0)
  have e0 : wr + more [] = wr := by show wr + 0 = wr; omega
  rw [e0] at hA
  refine (open_gen R (fun p l k w1 => ∃ G sv rv S', p = .pointer (some ⟨G, 0, none⟩) ∧ l = rcL (ep : Int) sv rv 0 ∧ k = 0 ∧ DkAt R S' (D2 0 (jf ep sn rs) [] wr) w1 ∧ (∀ g, S' g → S g ∨ w.heap.size + 1 ≤ g) ∧ Kp S (w.alloc (.cells rcZ.toArray 34)) w1 ∧ OwnT (w.heap.size + 1) w1 sv sn ∧ ∃ Y Z, w.heap.size + 1 ≤ Y ∧ Y ≤ Z ∧ Z ≤ w1.heap.size ∧ (∀ g, S' g → S g ∨ Z ≤ g) ∧ (∀ g, sv.ownBlock = some g → g < Y) ∧ TlsX Y Z w1 rv rs) w (hA.mono ?_)).mono ?_
  · rintro e w1 ⟨G, sv, rv, S', rfl, h1, h2, h3, h4, h5, h6, h7, Y, Z, y1, y0, y2, y3, y4⟩
    have sv1 : w.heap.size + 1 ≤ w1.heap.size := by have := h5.size; omega
    refine ⟨_, rcL (ep : Int) sv rv 0, 0, ?_, rfl, ?_, nz.kp h5 nS, G, sv, rv, S', rfl, rfl, rfl, h2, fun g hg => (h3 g hg).imp id (fun h => by omega), h5, ?_, min Y w1.heap.size, min Z w1.heap.size, by omega, by omega, Nat.min_le_right _ _, fun g hg => (y2 g hg).imp id (fun h => Nat.le_trans (Nat.min_le_left _ _) h), fun g hg => by have := y3 g hg; have := h7.block_lt hg; omega, y4.cap.mono (Nat.min_le_left _ _)⟩
    · have : ((D2 0 (jf ep sn rs) [] wr).b0.length : Int) - ((((CrcM.enc (hp ep sn)).length + (CrcM.join (rs.map rp)).length : Nat)) : Int) = 0 := by
        have := jf_len ep sn rs
        show ((jf ep sn rs).length : Int) - _ = 0
        omega
      rw [this]
    · obtain ⟨g, o, c, rfl, _⟩ := h7.len
      obtain ⟨a, c', rfl, _⟩ := y4.len
      exact rcL_one _ _ _ _ _ _ _ _
    · rw [sz] at h7; exact h7
  · rintro e w' ⟨p, l, k, w1, rfl, ⟨G, sv, rv, S', rfl, rfl, rfl, h2, h3, h5, h7, Y, Z, y1, y0, yz, y2, y3, y4⟩, kp⟩
    obtain ⟨g0, o0, c0, e7, _⟩ := h7.len
    obtain ⟨a8, c8, e8, _⟩ := y4.len
    subst e7 e8
    refine ⟨G, _, c0, a8, c8, S', rfl, h2.kp kp (fun g hg e => ?_), fun g hg => (h3 g hg).imp id (fun h => by omega), ((Kp.of_below b0 S).trans h5 (fun _ _ h => h)).trans kp (fun g hg e => by omega), (h7.kp kp (fun g hg => by omega)).mono (by omega), Y, Z, by omega, y0, Nat.le_trans yz kp.size, y2, y3, y4.kp kp (fun g hg => by omega)⟩
    subst e
    rcases h3 _ hg with h | h
    · exact nS h
    · omega
end Go.Proofs.YtcmfehabcklbpaaDoor
