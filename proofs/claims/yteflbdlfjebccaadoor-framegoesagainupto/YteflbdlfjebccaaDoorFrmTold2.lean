/-
  Ours: the statements' helper told.
-/
import Derived.Test.YteflbdlfjebccaaDoorFrmTold
import Derived.Test.YteflbdlfjebccaaDoorFrmApp
import Derived.Deep.AppendLies
import Derived.Deep.RegionLaw
import Derived.Deep.RegionWith
import Derived.Deep.RegionHeld3
import Derived.Maps.AppendAt
namespace Go.Proofs.YteflbdlfjebccaaDoor
open Go.RowKit

/-- Rows of bytes of these lengths, each in memory of its own. -/
structure TI (base : Nat) (W : World) (v : Value) (vs : List Value) (ns : List Nat) : Prop where
  row : RowV 22 base W v vs
  len : vs.length = ns.length
  it : ∀ i, i < ns.length → ∃ c : List Nat, c.length = ns.getD i 0 ∧ RowB 5 base W (vs.getD i undef) c
  ap : ∀ i j, i < ns.length → j < ns.length → i ≠ j → ∀ g, (vs.getD i undef).ownBlock = some g → (vs.getD j undef).ownBlock ≠ some g
/-- The blocks of the rows. -/
def TM (vs : List Value) (n : Nat) (g : Nat) : Prop := ∃ j, j < n ∧ (vs.getD j undef).ownBlock = some g

theorem TI.later {base : Nat} {W W' : World} {v : Value} {vs : List Value} {ns : List Nat} (h : TI base W v vs ns) (hb : Below W.heap.size W W') : TI base W' v vs ns := ⟨RowV.later h.row hb, h.len, fun i hi => by
  obtain ⟨c, h1, h2⟩ := h.it i hi
  exact ⟨c, h1, RowV.later h2 hb⟩, h.ap⟩
/-- The row's shape and its cells. -/
theorem TI.at {base : Nat} {W : World} {ao : Option Addr} {n c : Nat} {vs : List Value} {ns : List Nat} (h : TI base W (.slice ao n c) vs ns) : n = ns.length ∧ n ≤ c ∧ ∀ i, i < n → ∃ g a' c', ao = some ⟨g, 0, none⟩ ∧ g < W.heap.size ∧ W.cell? ⟨g, i, none⟩ = some (.slice a' (ns.getD i 0) c') ∧ vs.getD i undef = .slice a' (ns.getD i 0) c' ∧ ns.getD i 0 ≤ c' := by
  obtain ⟨ao', c', e, hc, _⟩ := (RowV.rd h.row).len
  injection e with e1 e2 e3
  subst e1 e3
  have hn : n = ns.length := by rw [e2, h.len]
  refine ⟨hn, by omega, fun i hi => ?_⟩
  obtain ⟨g, cap, e, _, hcell, _⟩ := RowV.own h.row (by omega)
  have e' : ao = some ⟨g, 0, none⟩ := by injection e
  have hiv : i < vs.length := by omega
  obtain ⟨q, hq, hr⟩ := h.it i (by omega)
  obtain ⟨a', cc, e3, hcc, _⟩ := (RowV.rd hr).len
  rw [List.length_map, hq] at e3 hcc
  have eg : vs.getD i undef = vs[i] := by rw [List.getD_eq_getElem?_getD, List.getElem?_eq_getElem hiv]; rfl
  refine ⟨g, a', cc, e', h.row.block_lt (g := g) (by rw [e']; rfl), ?_, e3, hcc⟩
  rw [hcell i hiv, ← eg, e3]

/-- A byte is written into row i. -/
theorem TI.set {base : Nat} {W : World} {v : Value} {vs : List Value} {ns : List Nat} {i k g cap : Nat} {c : List Nat} (h : TI base W v vs ns) (hi : i < ns.length) (ev : vs.getD i undef = .slice (some ⟨g, 0, none⟩) (ns.getD i 0) cap) (hc : c.length = ns.getD i 0) (hr : RowB 5 base W (vs.getD i undef) c) (x : Nat) :
    TI base (W.setCell ⟨g, k, none⟩ (.int .u8 (x : Int))) v vs ns ∧ RowB 5 base (W.setCell ⟨g, k, none⟩ (.int .u8 (x : Int))) (vs.getD i undef) (c.set k x) ∧ W.grownBy (W.setCell ⟨g, k, none⟩ (.int .u8 (x : Int))) (some g) ∧ ∀ j, j < ns.length → j ≠ i → ∀ q, RowB 5 base W (vs.getD j undef) q → RowB 5 base (W.setCell ⟨g, k, none⟩ (.int .u8 (x : Int))) (vs.getD j undef) q := by
  have ob : (vs.getD i undef).ownBlock = some g := by rw [ev]; rfl
  rw [ev] at hr ⊢
  obtain ⟨r2, g2⟩ := rowV_set (i := k) (u := .int .u8 (x : Int)) (by rw [List.length_map, hc]) hr
  rw [map_set_bv] at r2
  have keep : ∀ j, j < ns.length → j ≠ i → ∀ q, RowB 5 base W (vs.getD j undef) q → RowB 5 base (W.setCell ⟨g, k, none⟩ (.int .u8 (x : Int))) (vs.getD j undef) q := fun j hj hne q hq => RowV.kept hq g2 (fun g' hg e => by
    injection e with e
    subst e
    exact h.ap j i hj hi hne _ hg ob)
  refine ⟨⟨RowV.kept h.row g2 (fun g' hg e => ?_), h.len, fun j hj => ?_, h.ap⟩, r2, g2, keep⟩
  · injection e with e
    subst e
    exact rows_ne h.row hr (by decide) hg rfl
  · by_cases e : j = i
    · subst e
      exact ⟨c.set k x, by rw [List.length_set, hc], by rw [ev]; exact r2⟩
    · obtain ⟨q, h1, h2⟩ := h.it j hj
      exact ⟨q, h1, keep j hj e q h2⟩

/-- What told knows behind its third loop. -/
def TF (base L : Nat) (w W : World) (vl : Value) (lvs : List Value) (va : Value) (vs : List Value) (ns : List Nat) : Prop :=
  RowV 22 base W vl lvs ∧ RowV 22 base W va vs ∧ (∀ j, j < L → RdB W (vs.getD j undef) (markL (ns.getD j 0) j)) ∧ (∀ j, j < L → RowB 5 base W (lvs.getD j undef) (markL (ns.getD j 0) j ++ trailL j)) ∧ Kp (TM vs L) w W
theorem TF.later {base L : Nat} {w W W' : World} {vl : Value} {lvs : List Value} {va : Value} {vs : List Value} {ns : List Nat} (h : TF base L w W vl lvs va vs ns) (b : Below W.heap.size W W') : TF base L w W' vl lvs va vs ns :=
  ⟨RowV.later h.1 b, RowV.later h.2.1 b, fun j hj => Rd.later (h.2.2.1 j hj) b, fun j hj => RowV.later (h.2.2.2.1 j hj) b, Kp.trans h.2.2.2.2 (Kp.of_below b _) (fun _ _ h => h)⟩

theorem below_drew {w w' : World} (h : Below w.drew.heap.size w.drew w') : Below w.heap.size w w' := ⟨h.os, h.tape, h.output, h.size, h.block⟩

set_option maxRecDepth 100000 in
set_option maxHeartbeats 2000000 in
theorem told_at (base : Nat) (vs : List Value) (ns : List Nat) (v : Value) (w : World) (hn : ns.length ≤ 250) (hl : ∀ i, ns.getD i 0 ≤ 1000000000) (hb : base ≤ w.heap.size) (h : TI base w v vs ns) :
    Calls Tryd.prog 9 #[v] w fun e w' => e = .returned (.bool true) ∧ Marked w' v vs ns ∧ Kp (TM vs ns.length) w w' := by
  obtain ⟨ao, cap, rfl, _, _⟩ := (RowV.rd h.row).len
  obtain ⟨L, hL⟩ : ∃ L, vs.length = L := ⟨_, rfl⟩
  rw [hL] at h ⊢
  obtain ⟨hLn, hcap, _⟩ := h.at
  have AT : Hid (∀ W, TI base W (.slice ao L cap) vs ns → ∀ i, i < L → ∃ g a' c', ao = some ⟨g, 0, none⟩ ∧ g < W.heap.size ∧ W.cell? ⟨g, i, none⟩ = some (.slice a' (ns.getD i 0) c') ∧ vs.getD i undef = .slice a' (ns.getD i 0) c' ∧ ns.getD i 0 ≤ c') := fun W h => h.at.2.2
  have HL : Hid (ns.length = L) := hLn.symm
  have HB : Hid (∀ i, ns.getD i 0 ≤ 1000000000) := hl
  have H0 : Hid (TI base w (.slice ao L cap) vs ns) := h
  rw [HL.out] at hn ⊢
  clear h hl hL hLn
  go_enter Tryd.func9, Tryd.ntmps9
  go_wp2_with fail
  go_loopw [3] (fun vi wr => ∃ i : Nat, vi = .int .i64 (i : Int) ∧ i ≤ L ∧ Hid (TI base wr (.slice ao L cap) vs ns) ∧ Hid (∀ j, j < i → RowB 5 base wr (vs.getD j undef) (markL (ns.getD j 0) j)) ∧ Hid (Kp (TM vs L) w wr)) (fun vi _ => L - (intOf vi).toNat)
  case atStart => exact ⟨0, rfl, by omega, H0, (fun j hj => by omega), Kp.refl _ _⟩
  case round =>
    clear H0
    obtain ⟨i, rfl, hi, hT, hM, hK⟩ := hrel
    by_cases hlt : (i : Int) < (L : Int)
    · obtain ⟨g, a1, c1, eao, ltg, d1, e1, hc1⟩ := AT.out wr hT.out i (by omega)
      have hx := HB.out i
      obtain ⟨q0, hq0, hr0⟩ := hT.out.it i (by have := HL.out; omega)
      obtain ⟨N, hN⟩ : ∃ N, ns.getD i 0 = N := ⟨_, rfl⟩
      have HN : Hid (ns.getD i 0 = N) := hN
      rw [hN] at d1 e1 hc1 hx hq0
      have E1 : Hid (vs.getD i undef = .slice a1 N c1) := e1
      have HQ : Hid (∃ c : List Nat, c.length = N ∧ RowB 5 base wr (vs.getD i undef) c ∧ c.take 0 = List.replicate 0 (i % 256)) := ⟨q0, hq0, hr0, by simp⟩
      clear q0 hq0 hr0 hN e1 d1
      subst eao
      have CELL : Hid (∀ W, TI base W (.slice (some ⟨g, 0, none⟩) L cap) vs ns → W.cell? ⟨g, i, none⟩ = some (.slice a1 N c1)) := fun W hW => by
        obtain ⟨g', a', c', e2, _, e4, e5, _⟩ := AT.out W hW i (by omega)
        injection e2 with e2
        injection e2 with e2
        subst e2
        rw [E1.out, HN.out] at e5
        rw [e4, HN.out, ← e5]
      have d1 := CELL.out wr hT.out
      go_wp2_with fail
      go_loopw [4] (fun vk wq => ∃ k : Nat, vk = .int .i64 (k : Int) ∧ k ≤ N ∧ Hid (TI base wq (.slice (some ⟨g, 0, none⟩) L cap) vs ns) ∧ Hid (∀ j, j < i → RowB 5 base wq (vs.getD j undef) (markL (ns.getD j 0) j)) ∧ Hid (Kp (TM vs L) w wq) ∧ Hid (∃ c : List Nat, c.length = N ∧ RowB 5 base wq (vs.getD i undef) c ∧ c.take k = List.replicate k (i % 256))) (fun vk _ => N - (intOf vk).toNat)
      case atStart => exact ⟨0, rfl, by omega, hT, hM, hK, HQ⟩
      case round =>
        clear hT hM hK HQ d1
        obtain ⟨k, rfl, hk, hT, hM, hK, hQ⟩ := hrel
        have d1 := CELL.out wr hT.out
        by_cases hltk : (k : Int) < (N : Int)
        · obtain ⟨c, hcl, hcr, hct⟩ := hQ.out
          obtain ⟨g1, cap1, e2, _, hcell, hfz⟩ := RowV.own hcr (by rw [List.length_map]; omega)
          rw [List.length_map, hcl, E1.out] at e2
          have e2' : a1 = some ⟨g1, 0, none⟩ := by injection e2
          subst e2'
          obtain ⟨uu, cc⟩ : ∃ u, wr.cell? ⟨g1, k, none⟩ = some u := ⟨_, hcell k (by rw [List.length_map]; omega)⟩
          have ff := hfz k
          have ST := hT.out.set (k := k) (c := c) (by have := HL.out; omega) (by rw [E1.out, HN.out]) (by rw [HN.out]; exact hcl) hcr i
          have e256 : i % 256 = i := by omega
          obtain ⟨s1, s2, s3, s4⟩ := ST
          have S1 : Hid (TI base (wr.setCell ⟨g1, k, none⟩ (.int .u8 (i : Int))) (.slice (some ⟨g, 0, none⟩) L cap) vs ns) := s1
          have S2 : Hid (∀ j, j < i → RowB 5 base (wr.setCell ⟨g1, k, none⟩ (.int .u8 (i : Int))) (vs.getD j undef) (markL (ns.getD j 0) j)) := fun j hj => s4 j (by have := HL.out; omega) (by omega) _ (hM.out j hj)
          have S3 : Hid (Kp (TM vs L) w (wr.setCell ⟨g1, k, none⟩ (.int .u8 (i : Int)))) := Kp.trans hK.out (Kp.of_grown s3) (fun q _ e => ⟨i, by omega, by rw [E1.out]; exact e⟩)
          have S4 : Hid (∃ c : List Nat, c.length = N ∧ RowB 5 base (wr.setCell ⟨g1, k, none⟩ (.int .u8 (i : Int))) (vs.getD i undef) c ∧ c.take (k + 1) = List.replicate (k + 1) (i % 256)) := ⟨c.set k i, by rw [List.length_set, hcl], s2, by
            rw [List.take_add_one, List.take_set_of_le (Nat.le_refl _), hct, List.getElem?_set_self (by omega), rep_next, e256]; rfl⟩
          clear s1 s2 s3 s4 hQ hct hcell hfz hcl hcr hT hM hK
          clear e256
          go_wp2_with fail
          go_roundw
          case rel => exact ⟨k + 1, by go_num, by omega, S1, S2, S3, S4⟩
          case measure => simp [intOf]; omega
        · obtain rfl : k = N := by omega
          have M2 : Hid (∀ j, j < i + 1 → RowB 5 base wr (vs.getD j undef) (markL (ns.getD j 0) j)) := fun j hj => by
            by_cases e : j = i
            · subst e
              obtain ⟨c, h1, h2, h3⟩ := hQ.out
              rw [List.take_of_length_le (by omega)] at h3
              rw [HN.out]
              unfold markL
              rw [← h3]
              exact h2
            · exact hM.out j (by omega)
          clear hQ hM
          go_wp2_with fail
          go_roundw
          case rel => exact ⟨i + 1, by go_num, by omega, hT, M2, hK⟩
          case measure => simp [intOf]; omega
    · obtain rfl : i = L := by omega
      obtain ⟨i0, hi0, hz0, hz1, hz2⟩ := info_parts infoB
      obtain ⟨j0, hj0, yz0, yz1, yz2⟩ := info_parts infoS
      have hbw : base ≤ wr.heap.size := Nat.le_trans hb hK.out.size
      obtain ⟨H3, hH3⟩ : ∃ H, wr.heap.size = H := ⟨_, rfl⟩
      have HV : Hid (∀ j, j < i → ∀ g, (vs.getD j undef).ownBlock = some g → g < H3) := fun j hj g hg => by rw [← hH3]; exact (hM.out j hj).block_lt hg
      have HH3 : Hid (H3 ≤ wr.heap.size) := by show _ ≤ _; omega
      have SH : Hid (∀ j, j < i → ∃ a' c', vs.getD j undef = .slice a' (ns.getD j 0) c' ∧ ns.getD j 0 ≤ c') := fun j hj => by
        obtain ⟨_, a', c', _, _, _, h5, h6⟩ := AT.out wr hT.out j hj
        exact ⟨a', c', h5, h6⟩
      have AP : Hid (∀ p q, p < i → q < i → p ≠ q → ∀ g, (vs.getD p undef).ownBlock = some g → (vs.getD q undef).ownBlock ≠ some g) := fun p q hp hq hne => hT.out.ap p q (by have := HL.out; omega) (by have := HL.out; omega) hne
      have VR : Hid (RowV 22 base wr (.slice ao i cap) vs) := hT.out.row
      have VB : Hid (∀ g, (Value.slice ao i cap).ownBlock = some g → g < H3) := fun g hg => by rw [← hH3]; exact hT.out.row.block_lt hg
      have H3W : Hid (w.heap.size ≤ H3) := by show _ ≤ _; rw [← hH3]; exact hK.out.size
      have CEL : Hid (∀ W, RowV 22 base W (.slice ao i cap) vs → ∀ j, j < i → ∃ g, ao = some ⟨g, 0, none⟩ ∧ g < W.heap.size ∧ W.cell? ⟨g, j, none⟩ = some (vs.getD j undef)) := fun W hW j hj => by
        obtain ⟨g, cp, e, _, hcell, _⟩ := RowV.own hW (by have := hT.out.len; have := HL.out; omega)
        have e' : ao = some ⟨g, 0, none⟩ := by injection e
        have hjv : j < vs.length := by have := hT.out.len; have := HL.out; omega
        refine ⟨g, e', hW.block_lt (g := g) (by rw [e']; rfl), ?_⟩
        rw [hcell j hjv, List.getD_eq_getElem?_getD, List.getElem?_eq_getElem hjv]; rfl
      clear hlt hH3 AT hT
      go_wp2_with fail
      go_loopw [5, 6] (fun vl vk wq => ∃ (k : Nat) (lvs : List Value), vk = .int .i64 (k : Int) ∧ k ≤ i ∧ Hid (lvs.length = k) ∧ Hid (RowV 22 base wq vl lvs) ∧ Hid (∀ g, vl.ownBlock = some g → H3 ≤ g) ∧ Hid (RowV 22 base wq (.slice ao i cap) vs) ∧ Hid (∀ j, k ≤ j → j < i → RowB 5 base wq (vs.getD j undef) (markL (ns.getD j 0) j)) ∧ Hid (∀ j, j < k → RdB wq (vs.getD j undef) (markL (ns.getD j 0) j)) ∧ Hid (∀ j, j < k → RowB 5 base wq (lvs.getD j undef) (markL (ns.getD j 0) j ++ trailL j) ∧ ∀ g, (lvs.getD j undef).ownBlock = some g → (vs.getD j undef).ownBlock = some g ∨ H3 ≤ g) ∧ Hid (Kp (TM vs i) w wq) ∧ base ≤ wq.heap.size ∧ H3 ≤ wq.heap.size) (fun _ vk _ => i - (intOf vk).toNat)
      case atStart => exact ⟨0, [], rfl, by omega, rfl, RowV.nil _ _ _, (fun g e => by simp [Value.ownBlock] at e), VR, (fun j _ hj => hM.out j hj), (fun j hj => by omega), (fun j hj => by omega), hK, hbw, HH3.out⟩
      case round =>
        clear hM hK hbw HH3 VR
        obtain ⟨k, lvs, rfl, hk, hlen, hLr, hLn, hV, hM, hMr, hLm, hK, hbw, hH3⟩ := hrel
        by_cases hlt : (k : Int) < (i : Int)
        · obtain ⟨g, eao, ltg, d1⟩ := CEL.out wr hV.out k (by omega)
          obtain ⟨a1, c1, e1, hc1⟩ := SH.out k (by omega)
          have hx := HB.out k
          have hMk := hM.out k (Nat.le_refl _) (by omega)
          rw [e1] at d1 hMk
          obtain ⟨N, hN⟩ : ∃ N, ns.getD k 0 = N := ⟨_, rfl⟩
          have HN : Hid (ns.getD k 0 = N) := hN
          rw [hN] at d1 e1 hc1 hx hMk
          have E1 : Hid (vs.getD k undef = .slice a1 N c1) := e1
          have TR : Hid (Calls Tryd.prog 17 #[.int .i64 (k : Int)] wr.drew (NewB wr.drew (trailL k))) := trail_at k _ (by omega)
          have HTL : Hid ((trailL k).length = 64) := List.length_replicate
          have HML : Hid ((markL N k).length = N) := List.length_replicate
          have ONE1 := one_bv (trailL k)
          have MK : Hid (RowB 5 base wr (.slice a1 N c1) (markL N k)) := hMk
          have l1 : N + 64 ≤ maxLen := by unfold maxLen; omega
          have l2 : (N + 64) * 1 ≤ 140737488355328 := by omega
          have m1 : k + 1 ≤ maxLen := by unfold maxLen; omega
          have m2 : (k + 1) * 24 ≤ 140737488355328 := by omega
          clear hN e1 hMk
          subst eao
          have DL : Hid (∀ w', Below wr.heap.size wr w' → w'.cell? ⟨g, k, none⟩ = some (.slice a1 N c1)) := fun w' hb' => (hb'.cell (p := ⟨g, k, none⟩) ltg).trans d1
          have LTG : Hid (g < H3) := VB.out g rfl
          go_upto_region 12 with fail
          have CK : Hid (∀ W, RowV 22 base W (.slice (some ⟨g, 0, none⟩) i cap) vs → g < W.heap.size ∧ W.cell? ⟨g, k, none⟩ = some (.slice a1 N c1)) := fun W hW => by
            obtain ⟨g', e2, lt2, c2⟩ := CEL.out W hW k (by omega)
            injection e2 with e2
            injection e2 with e2
            subst e2
            rw [E1.out] at c2
            exact ⟨lt2, c2⟩
          -- behind the first append
          have KP2 : Hid (∀ w1 w2, Below wr.heap.size wr w1 → w1.grownBy w2 (Value.slice a1 N c1).ownBlock → RowV 22 base w2 (.slice (some ⟨g, 0, none⟩) i cap) vs ∧ RowV 22 base w2 u5 lvs ∧ (∀ j, k + 1 ≤ j → j < i → RowB 5 base w2 (vs.getD j undef) (markL (ns.getD j 0) j)) ∧ (∀ j, j < k → RdB w2 (vs.getD j undef) (markL (ns.getD j 0) j)) ∧ (∀ j, j < k → RowB 5 base w2 (lvs.getD j undef) (markL (ns.getD j 0) j ++ trailL j)) ∧ Kp (TM vs i) w w2) := fun w1 w2 b gr => by
            have mk1 : RowB 5 base w1 (.slice a1 N c1) (markL N k) := RowV.later MK.out b
            have nb : ∀ q, (Value.slice a1 N c1).ownBlock = some q → q < H3 := fun q hq => HV.out k (by omega) q (by rw [E1.out]; exact hq)
            refine ⟨RowV.kept (RowV.later hV.out b) gr (fun q hq e => rows_ne (RowV.later hV.out b) mk1 (by decide) hq e), RowV.kept (RowV.later hLr.out b) gr (fun q hq e => rows_ne (RowV.later hLr.out b) mk1 (by decide) hq e), fun j h1 h2 => RowV.kept (RowV.later (hM.out j (by omega) h2) b) gr (fun q hq e => AP.out j k h2 (by omega) (by omega) q hq (by rw [E1.out]; exact e)), fun j hj => Rd.grown (Rd.later (hMr.out j hj) b) gr (fun q hq e => AP.out j k (by omega) (by omega) (by omega) q hq (by rw [E1.out]; exact e)), fun j hj => RowV.kept (RowV.later (hLm.out j hj).1 b) gr (fun q hq e => ?_), Kp.trans (Kp.trans hK.out (Kp.of_below b _) (fun _ _ h => h)) (Kp.of_grown gr) (fun q _ e => ⟨k, by omega, by rw [E1.out]; exact e⟩)⟩
            rcases (hLm.out j hj).2 q hq with h1 | h1
            · exact AP.out j k (by omega) (by omega) (by omega) q h1 (by rw [E1.out]; exact e)
            · have := nb q e; omega
          go_region_held3 (fun w' => w'.cell? ⟨g, k, none⟩ = some (.slice a1 N c1)) (first | go_keep | assumption)
            ((first
            | (go_at_call 17; refine TR.out.mono ?_; rintro e w1 ⟨v1, rfl, r1, b1⟩; obtain ⟨g1, cp1, ev1, hcp1, hcell1, _⟩ := RowV.own r1 (by rw [List.length_map, HTL.out]; omega); rw [List.length_map, HTL.out] at ev1 hcp1; subst ev1; have B1 : Below wr.heap.size wr w1 := below_drew b1; have sk1 := DL.out _ B1; have OWN1 : w1.ownsRow base 5 1 (.slice a1 N c1) N ((markL N k).map bv) := (by have := RowV.later MK.out B1; rw [RowV, List.length_map, HML.out] at this; exact this); have NW1 : ∀ j u, ((trailL k).map bv)[j]? = some u → w1.cell? ((⟨g1, 0, none⟩ : Addr).add j) = some u := (fun j u hj => World.ownsRow.cells r1 rfl j u hj); have TL1 : ((trailL k).map bv).length = 64 * 1 := (by rw [List.length_map, HTL.out]); have hb1 : base ≤ w1.heap.size := Nat.le_trans hbw B1.size; clear hcell1)
            | (refine step_append_old _ (by rfl) (.tmp 41) (.tmp 43) 22 (by rfl) base 5 i0 (.int .u8 0) 1 1 underB hi0 hz0 hz1 hz2 rfl (by decide) (.slice a1 N c1) N ((markL N k).map bv) (by simp [Act.eval]) OWN1 ⟨g1, 0, none⟩ 64 cp1 ((trailL k).map bv) (by simp [Act.eval]) TL1 NW1 ONE1 (by decide) l1 l2 hb1 _ rfl ?_; intro g2 cap2 w2 hown2 hgrow2 hat2 hlt2; have K2 := KP2.out w1 w2 B1 hgrow2; have sk2 := (CK.out w2 K2.1).2; have ska : (w2.alloc (.cells #[.slice (some ⟨g2, 0, none⟩) (N + 64) cap2] 22)).cell? ⟨g, k, none⟩ = some (.slice a1 N c1) := ((below_alloc w2 _).cell (p := ⟨g, k, none⟩) (CK.out w2 K2.1).1).trans sk2; have OWN2 : (w2.alloc (.cells #[.slice (some ⟨g2, 0, none⟩) (N + 64) cap2] 22)).ownsRow base 22 1 u5 k lvs := (by have := World.ownsRow.alloc K2.2.1 (.cells #[.slice (some ⟨g2, 0, none⟩) (N + 64) cap2] 22); rw [hlen.out] at this; exact this); have NW2 := cell_one_new w2 (.slice (some ⟨g2, 0, none⟩) (N + 64) cap2) 22; have hb2 : base ≤ (w2.alloc (.cells #[.slice (some ⟨g2, 0, none⟩) (N + 64) cap2] 22)).heap.size := (by have := hgrow2.size; simp; omega); have ONE2 : ∀ u ∈ [Value.slice (some ⟨g2, 0, none⟩) (N + 64) cap2], u.oneCell' = true := (fun u hu => by simp at hu; subst hu; rfl))
            | (refine step_append_lies _ (by rfl) (.tmp 37) (.tmp 45) 23 (by rfl) base 22 j0 (.slice none 0 0) 1 24 underS hj0 yz0 yz1 yz2 rfl (by decide) u5 k lvs (by simp [Act.eval]) OWN2 ⟨w2.heap.size, 0, none⟩ 1 1 [.slice (some ⟨g2, 0, none⟩) (N + 64) cap2] (by simp [Act.eval]) rfl NW2 ONE2 (by decide) m1 m2 hb2 _ rfl ?_; intro g3 cap3 w3 hown3 hgrow3 hat3 hlt3; have sk3 : w3.cell? ⟨g, k, none⟩ = some (.slice a1 N c1) := (World.cell?_of_block (hgrow3.block g (by have := (CK.out w2 K2.1).1; simp; omega) (fun e => by have := hLn.out g e.symm; have := LTG.out; omega))).trans ska)
            | fail))
          have HX1 : H3 ≤ w1.heap.size := Nat.le_trans hH3 B1.size
          have RD2 : RdB w2 (.slice a1 N c1) (markL N k) := by
            rcases hat2 with e | ⟨_, gn⟩
            · rw [e]
              have r : RowV 5 base w2 (.slice (some ⟨g2, 0, none⟩) (N + 64) cap2) ((markL N k).map bv ++ (trailL k).map bv) := by
                rw [RowV, List.length_append, List.length_map, List.length_map, HML.out, HTL.out]; exact hown2
              have := Rd.cut (RowV.rd r) (k := N) (by omega)
              rw [List.take_left' (by rw [List.length_map, HML.out])] at this
              exact this
            · exact Rd.grown (Rd.later (RowV.rd MK.out) B1) gn (by simp)
          have bA := below_alloc w2 (.cells #[Value.slice (some ⟨g2, 0, none⟩) (N + 64) cap2] 22)
          have hs2 : w2.heap.size ≤ (w2.alloc (.cells #[Value.slice (some ⟨g2, 0, none⟩) (N + 64) cap2] 22)).heap.size := bA.size
          have hs12 := hgrow2.size
          have hs3 := hgrow3.size
          have hns : ∀ j, j < i → ∀ q, (vs.getD j undef).ownBlock = some q → u5.ownBlock ≠ some q := fun j hj q hq e => by
            have := HV.out j hj q hq
            have := hLn.out q e
            omega
          have uLA := RowV.later K2.2.1 bA
          have R5 : Hid ((lvs ++ [Value.slice (some ⟨g2, 0, none⟩) (N + 64) cap2]).length = k + 1) := by
            show _ = _
            rw [List.length_append, hlen.out]; rfl
          have RL : Hid (RowV 22 base w3 (.slice (some ⟨g3, 0, none⟩) (k + 1) cap3) (lvs ++ [Value.slice (some ⟨g2, 0, none⟩) (N + 64) cap2])) := by
            show RowV _ _ _ _ _
            rw [RowV, R5.out]; exact hown3
          have NL : Hid (∀ q, (Value.slice (some ⟨g3, 0, none⟩) (k + 1) cap3).ownBlock = some q → H3 ≤ q) := fun q hq => by
            have hq' : g3 = q := by simpa [Value.ownBlock] using hq
            subst hq'
            rcases hat3 with h | h
            · exact hLn.out _ h
            · omega
          have V3 : Hid (RowV 22 base w3 (.slice (some ⟨g, 0, none⟩) i cap) vs) := RowV.kept (RowV.later K2.1 bA) hgrow3 (fun q hq e => by
            have hq' : g = q := by simpa [Value.ownBlock] using hq
            have := hLn.out q e
            have := LTG.out
            omega)
          have M3 : Hid (∀ j, k + 1 ≤ j → j < i → RowB 5 base w3 (vs.getD j undef) (markL (ns.getD j 0) j)) := fun j h1 h2 => RowV.kept (RowV.later (K2.2.2.1 j h1 h2) bA) hgrow3 (fun q hq => hns j h2 q hq)
          have MR3 : Hid (∀ j, j < k + 1 → RdB w3 (vs.getD j undef) (markL (ns.getD j 0) j)) := fun j hj => by
            refine Rd.grown (Rd.later (w := w2) ?_ bA) hgrow3 (fun q hq => hns j (by omega) q hq)
            by_cases e : j = k
            · subst e; rw [E1.out, HN.out]; exact RD2
            · exact K2.2.2.2.1 j (by omega)
          have LM3 : Hid (∀ j, j < k + 1 → RowB 5 base w3 ((lvs ++ [Value.slice (some ⟨g2, 0, none⟩) (N + 64) cap2]).getD j undef) (markL (ns.getD j 0) j ++ trailL j) ∧ ∀ q, ((lvs ++ [Value.slice (some ⟨g2, 0, none⟩) (N + 64) cap2]).getD j undef).ownBlock = some q → (vs.getD j undef).ownBlock = some q ∨ H3 ≤ q) := fun j hj => by
            by_cases e : j = k
            · subst e
              have ex : (lvs ++ [Value.slice (some ⟨g2, 0, none⟩) (N + 64) cap2]).getD j undef = Value.slice (some ⟨g2, 0, none⟩) (N + 64) cap2 := by
                rw [List.getD_eq_getElem?_getD, List.getElem?_append_right (by rw [hlen.out]; omega), hlen.out, Nat.sub_self]; rfl
              rw [ex, HN.out]
              have r : RowB 5 base w2 (Value.slice (some ⟨g2, 0, none⟩) (N + 64) cap2) (markL N j ++ trailL j) := by
                rw [RowB, RowV, List.map_append, List.length_append, List.length_map, List.length_map, HML.out, HTL.out]; exact hown2
              refine ⟨RowV.kept (RowV.later r bA) hgrow3 (fun q hq e => rows_ne uLA (RowV.later r bA) (by decide) e hq), fun q hq => ?_⟩
              have hq' : g2 = q := by simpa [Value.ownBlock] using hq
              subst hq'
              rcases hat2 with e | ⟨e, _⟩
              · left; rw [E1.out, e]; rfl
              · right; omega
            · have ex : (lvs ++ [Value.slice (some ⟨g2, 0, none⟩) (N + 64) cap2]).getD j undef = lvs.getD j undef := by
                rw [List.getD_eq_getElem?_getD, List.getElem?_append_left (by rw [hlen.out]; omega), ← List.getD_eq_getElem?_getD]
              rw [ex]
              exact ⟨RowV.kept (RowV.later (K2.2.2.2.2.1 j (by omega)) bA) hgrow3 (fun q hq e => rows_ne uLA (RowV.later (K2.2.2.2.2.1 j (by omega)) bA) (by decide) e hq), (hLm.out j (by omega)).2⟩
          have K3 : Hid (Kp (TM vs i) w w3) := Kp.trans (Kp.trans K2.2.2.2.2.2 (Kp.of_below bA _) (fun _ _ h => h)) (Kp.of_grown hgrow3) (fun q hq e => by
            have := hLn.out q e
            have := H3W.out
            omega)
          have hb3 : base ≤ w3.heap.size := by omega
          have hh3 : H3 ≤ w3.heap.size := by omega
          clear K2 KP2 CK RD2 bA uLA hns hown2 hgrow2 hat2 hown3 hgrow3 hat3 OWN1 NW1 OWN2 NW2 ONE2 sk1 sk2 ska sk3 r1 b1 B1 TL1
          go_wp2_with fail
          go_roundw
          case rel => exact ⟨k + 1, _, by go_num, by omega, R5, RL, NL, V3, M3, MR3, LM3, K3, hb3, hh3⟩
          case measure => simp [intOf]; omega
        · obtain rfl : k = i := by omega
          have F0 : Hid (TF base k w wr u5 lvs (.slice ao k cap) vs ns) := ⟨hLr.out, hV.out, hMr.out, fun j hj => (hLm.out j hj).1, hK.out⟩
          clear hLr hLn hV hM hMr hLm hK VB HV H3W hbw hH3 AP hlt
          go_wp2_with fail
          go_loopw [7] (fun vk wq => ∃ q : Nat, vk = .int .i64 (q : Int) ∧ q ≤ k ∧ Hid (TF base k w wq u5 lvs (.slice ao k cap) vs ns)) (fun vk _ => k - (intOf vk).toNat)
          case atStart => exact ⟨0, rfl, by omega, F0⟩
          case round =>
            clear F0
            obtain ⟨q, rfl, hq, hF⟩ := hrel
            by_cases hlt : (q : Int) < (k : Int)
            · obtain ⟨g, eao, ltg, d1⟩ := CEL.out wr hF.out.2.1 q (by omega)
              obtain ⟨a1, c1, e1, hc1⟩ := SH.out q (by omega)
              have hx := HB.out q
              obtain ⟨gl, cl, el, hcl, hcell, _⟩ := RowV.own hF.out.1 (by rw [hlen.out]; omega)
              have r4 := hF.out.2.2.2.1 q (by omega)
              obtain ⟨N, hN⟩ : ∃ N, ns.getD q 0 = N := ⟨_, rfl⟩
              rw [hN] at e1 hc1 hx r4
              have HTL : (trailL q).length = 64 := List.length_replicate
              have HML : (markL N q).length = N := List.length_replicate
              obtain ⟨gk, ck, ek, hck, _, _⟩ := RowV.own r4 (by rw [List.length_map, List.length_append]; omega)
              rw [List.length_map, List.length_append, HML, HTL] at ek hck
              have dl := hcell q (by rw [hlen.out]; omega)
              have elv : lvs[q]'(by rw [hlen.out]; omega) = lvs.getD q undef := by rw [List.getD_eq_getElem?_getD, List.getElem?_eq_getElem]; rfl
              rw [elv, ek] at dl
              rw [e1] at d1
              rw [hlen.out] at el hcl
              have ltl : gl < wr.heap.size := hF.out.1.block_lt (g := gl) (by rw [el]; rfl)
              rw [ek] at r4
              have R4 : Hid (RdB wr (.slice (some ⟨gk, N, none⟩) 64 (ck - N)) (trailL q)) := by
                have := RdB.from (A := N) (bs := markL N q ++ trailL q) (by rw [List.length_append, HML, HTL]; exact RowV.rd r4) (by rw [List.length_append, HML]; omega)
                rw [List.length_append, HML, HTL, List.drop_left' HML, if_neg (by omega), Nat.add_sub_cancel_left] at this
                have ea : (⟨gk, 0, none⟩ : Addr).add N = ⟨gk, N, none⟩ := by unfold Addr.add; split <;> simp_all
                rw [Option.map_some, ea] at this
                exact this
              have TR : Hid (∀ n, Calls Tryd.prog 17 #[.int .i64 (q : Int)] (wr.drewN n) (NewB (wr.drewN n) (trailL q))) := fun n => trail_at q _ (by omega)
              have SM : Hid (∀ va vb W, RdB W va (trailL q) → RdB W vb (trailL q) → Calls Tryd.prog 7 #[va, vb] W fun e w' => e = .returned (.bool true) ∧ ∃ n, w' = W.drewN n) := fun va vb W h h' => by
                refine (same_at (trailL q) (trailL q) va vb W (by rw [HTL]; omega) h h').mono ?_
                rintro e w' ⟨rfl, h⟩
                exact ⟨by simp, h⟩
              have HTL' : Hid ((trailL q).length = 64) := HTL
              have DLL : Hid (∀ W, Below wr.heap.size wr W → W.cell? ⟨g, q, none⟩ = some (.slice a1 N c1) ∧ W.cell? ⟨gl, q, none⟩ = some (.slice (some ⟨gk, 0, none⟩) (N + 64) ck)) := fun W b => ⟨(b.cell (p := ⟨g, q, none⟩) ltg).trans d1, (b.cell (p := ⟨gl, q, none⟩) ltl).trans dl⟩
              clear hcell elv e1 HTL HML hN ek r4
              subst eao el
              go_upto_region 16 with fail
              go_region_with (first
                | (go_at_call 17; refine (TR.out _).mono ?_; rintro e wn ⟨vn, rfl, rn, bn⟩; obtain ⟨an, cn, en, hcn, _⟩ := (RowV.rd rn).len; rw [List.length_map, HTL'.out] at en hcn; subst en; have BN : Below wr.heap.size wr wn := (by first | exact bn | exact below_drewN' bn); have RN : RdB wn (.slice an 64 cn) (trailL q) := RowV.rd rn; have QN : RdB wn (.slice (some ⟨gk, N, none⟩) 64 (ck - N)) (trailL q) := Rd.later R4.out BN; obtain ⟨d2, dl2⟩ := DLL.out wn BN; clear rn bn)
                | (go_at_call 7; refine (SM.out _ _ _ (by first | exact QN | exact Rd.drewN QN _) (by first | exact RN | exact Rd.drewN RN _)).mono ?_; rintro e wm ⟨rfl, nm, rfl⟩))
              all_goals (
                have FX : Hid (∀ n, TF base k w (wn.drewN n) (.slice (some ⟨gl, 0, none⟩) k cl) lvs (.slice (some ⟨g, 0, none⟩) k cap) vs ns) := fun n => (hF.out.later BN).later (below_drewN (Below.refl _ _) n)
                clear RN QN d2 dl2 BN hF R4 DLL d1 dl SM TR
                go_wp2_with fail
                go_roundw
                case rel => exact ⟨q + 1, by go_num, by omega, FX.out _⟩
                case measure => simp [intOf]; omega)
            · obtain rfl : q = k := by omega
              have MKD : Marked wr (.slice ao q cap) vs ns := by
                refine ⟨ao, cap, by rw [HL.out], by rw [HL.out]; exact hcap, fun j hj => ?_⟩
                obtain ⟨g, eao, ltg, d1⟩ := CEL.out wr hF.out.2.1 j (by have := HL.out; omega)
                obtain ⟨a1, c1, e1, hc1⟩ := SH.out j (by have := HL.out; omega)
                have r3 := hF.out.2.2.1 j (by have := HL.out; omega)
                rw [e1] at r3 d1
                exact ⟨g, 0, a1, c1, eao, by rw [Nat.zero_add]; exact d1, e1, r3⟩
              have ST : Hid (∀ n, Calls Tryd.prog 11 #[.slice ao q cap] (wr.drewN n) fun e w' => e = .returned (.bool true) ∧ w' = wr.drewN n) := fun n => still_at vs ns _ (wr.drewN n) (by rw [HL.out]; omega) HB.out MKD
              have ST0 : Hid (Calls Tryd.prog 11 #[.slice ao q cap] wr fun e w' => e = .returned (.bool true) ∧ w' = wr) := still_at vs ns _ wr (by rw [HL.out]; omega) HB.out MKD
              have FIN0 : Hid (Marked wr (.slice ao q cap) vs ns ∧ Kp (TM vs q) w wr) := ⟨MKD, hF.out.2.2.2.2⟩
              have FIN : Hid (∀ n, Marked (wr.drewN n) (.slice ao q cap) vs ns ∧ Kp (TM vs q) w (wr.drewN n)) := fun n => ⟨MKD, hF.out.2.2.2.2.drewN n⟩
              clear MKD
              go_wp2_with (go_at_call 11; refine Calls.mono (by first | exact ST0.out | exact ST.out _) ?_; rintro e wn ⟨rfl, rfl⟩)
              go_ret
              first | exact ⟨rfl, FIN0.out⟩ | exact ⟨rfl, FIN.out _⟩
end Go.Proofs.YteflbdlfjebccaaDoor
