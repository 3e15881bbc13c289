/-
  Ours: recovered where nothing is found; Format.
-/
import Derived.Test.YtcmfehabcklbpaaDoorJouCom
namespace Go.Proofs.YtcmfehabcklbpaaDoor
open Go.RowKit JM

/-- What Format does to a disk. -/
def Dk.fmt (t : Dk) (F : List Nat) : Dk × Int :=
  if t.dn = true then (t, 51) else if (t.cut 1 t.b1.length 0).2 ≠ 0 then t.cut 1 t.b1.length 0 else if ((t.cut 1 t.b1.length 0).1.cut 0 t.b0.length 0).2 ≠ 0 then (t.cut 1 t.b1.length 0).1.cut 0 t.b0.length 0 else ((t.cut 1 t.b1.length 0).1.cut 0 t.b0.length 0).1.lay 0 F

/-- What stands while the files are emptied. -/
structure FS (w : World) (R : Nat) (S : Nat → Prop) (B L : Nat) (s0 s1 : Value) (F : List Nat) (a : Option Addr) (c : Nat) (W : World) (t : Dk) (wr : World) : Prop where
  p : DkPost R S W t wr
  b : Blk B 83 [s0, s1] wr
  l : Blk L 3 [.int .i64 1, .int .i64 0] wr
  f : RdB wr (.slice a F.length c) F
  sb : w.heap.size ≤ B ∧ B < W.heap.size
  sl : w.heap.size ≤ L ∧ L < W.heap.size
  sf : ∀ g, (Value.slice a F.length c).ownBlock = some g → w.heap.size ≤ g ∧ g < W.heap.size
theorem FS.step {w : World} {R : Nat} {S S1 : Nat → Prop} {B L : Nat} {s0 s1 : Value} {F : List Nat} {a : Option Addr} {c : Nat} {W wr w' : World} {t t' : Dk} (hS : ∀ g, S g → g < w.heap.size) (h : FS w R S B L s0 s1 F a c W t wr) (g1 : ∀ g, S1 g → S g ∨ W.heap.size ≤ g) (k1 : Kp S W wr) (p : DkPost R S1 wr t' w') : FS w R S B L s0 s1 F a c W t' w' := by
  have hp := DkPost.trans g1 k1 p
  obtain ⟨S2, d2, g2, k2⟩ := p
  have ns : ∀ g, w.heap.size ≤ g → g < W.heap.size → ¬ S1 g := fun g h1 h2 hs => (g1 g hs).elim (fun h => by have := hS g h; omega) (fun h => by omega)
  exact ⟨hp, h.b.kp k2 (ns B h.sb.1 h.sb.2), h.l.kp k2 (ns L h.sl.1 h.sl.2), h.f.kp k2 (fun g hg => ns g (h.sf g hg).1 (h.sf g hg).2), h.sb, h.sl, h.sf⟩

set_option maxRecDepth 40000 in
set_option maxHeartbeats 2000000 in
theorem format_dn (R : Nat) (S : Nat → Prop) (t : Dk) (sn : List Nat) (ad : Option Addr) (n c : Nat) (w : World) (hdn : t.dn = true) (h : DkAt R S t w)
    (hr : ∀ b ∈ sn, b < 256) (hl : sn.length < 4194290) (hd : RdB w (.slice ad n c) sn) (hT : TabS w) :
    Calls Tryd.prog 32 #[stV R, .slice ad n c] w fun e w' => e = .returned (.int .i64 51) ∧ Below w.heap.size w w' := by
  have HF : Hid (Calls Tryd.prog 37 #[.int .i64 1, .slice ad n c] w (NewT w (CrcM.enc (hp 1 sn)))) := headerFrame_at 1 sn ad n c w (by omega) hr hl hd hT
  have RB : Hid (∀ w1, Below w.heap.size w w1 → Calls Tryd.prog 43 #[stV R] w1 fun e w' => Below w1.heap.size w1 w' ∧ e = .returned (.tuple #[.agg #[.slice none 0 0, .slice none 0 0], .int .i64 51])) := fun w1 b1 => (readBoth_at R S t w1 (h.below b1)).mono fun e w' ⟨h1, h2⟩ => ⟨h1, by rw [if_pos hdn] at h2; exact h2⟩
  clear h hr hl hd hT hdn
  generalize CrcM.enc (hp 1 sn) = F at *
  go_enter Tryd.func32, Tryd.ntmps32
  go_wp2_with fail
  refine HF.out.mono ?_
  rintro e w1 ⟨a2, c2, rfl, -, b1⟩
  have B1 : Hid (Below w.heap.size w w1) := b1
  have R1 : Hid (Calls Tryd.prog 43 #[stV R] w1 fun e w' => Below w1.heap.size w1 w' ∧ e = .returned (.tuple #[.agg #[.slice none 0 0, .slice none 0 0], .int .i64 51])) := RB.out w1 b1
  clear b1 RB HF
  go_wp2_with fail
  refine R1.out.mono ?_
  rintro e w2 ⟨b2, rfl⟩
  have B2 : Hid (Below w.heap.size w w2) := below_trans B1.out b2
  clear b2 B1 R1
  go_wp2_with (first
    | ((with_reducible refine at_store ?_); refine step_store rfl 83 _ _ rfl w2.heap.size 0 83 z2 z2 rfl rfl (Blk.new 83 z2 w2) (Nat.le_refl _) rfl z2_one ?_; intro w3 nb g3; have B3 : Hid (Below w.heap.size w w3) := below_row (below_trans B2.out (below_alloc _ _)) g3 B2.out.size; clear nb g3 B2))
  go_ret
  exact ⟨rfl, B3.out⟩
set_option maxRecDepth 40000 in
set_option maxHeartbeats 2000000 in
theorem format_up (R : Nat) (S : Nat → Prop) (t : Dk) (sn : List Nat) (ad : Option Addr) (n c : Nat) (w : World) (hw : 0 ≤ t.wr ∧ t.wr < 1152921504606846976) (hdn : t.dn = false) (h : DkAt R S t w) (hS : ∀ g, S g → g < w.heap.size)
    (hr : ∀ b ∈ sn, b < 256) (hl : sn.length < 4194290) (hd : RdB w (.slice ad n c) sn) (hT : TabS w) :
    Calls Tryd.prog 32 #[stV R, .slice ad n c] w fun e w' => e = .returned (.int .i64 (t.fmt (CrcM.enc (hp 1 sn))).2) ∧ DkPost R S w (t.fmt (CrcM.enc (hp 1 sn))).1 w' := by
  have HF : Hid (Calls Tryd.prog 37 #[.int .i64 1, .slice ad n c] w (NewT w (CrcM.enc (hp 1 sn)))) := headerFrame_at 1 sn ad n c w (by omega) hr hl hd hT
  have FL : (CrcM.enc (hp 1 sn)).length ≤ 1000000000000 := by
    have := put_len10 1 (by omega)
    rw [CrcM.enc_len]; simp [hp]; omega
  have RB : Hid (∀ w1, Below w.heap.size w w1 → Calls Tryd.prog 43 #[stV R] w1 fun e w' => Below w1.heap.size w1 w' ∧ ∃ a0 c0 a1 c1, e = .returned (.tuple #[.agg #[.slice a0 t.b0.length c0, .slice a1 t.b1.length c1], .int .i64 0])) := fun w1 b1 => (readBoth_at R S t w1 (h.below b1)).mono fun e w' ⟨h1, h2⟩ => ⟨h1, by
    rw [if_neg (by rw [hdn]; decide)] at h2
    obtain ⟨a0, c0, a1, c1, e, -⟩ := h2
    exact ⟨a0, c0, a1, c1, e⟩⟩
  have W1 := cut_wr t 1 t.b1.length 0
  have W0 := cut_wr (t.cut 1 t.b1.length 0).1 0 t.b0.length 0
  have CU1 : Hid (∀ S1 wr a1 c1, DkAt R S1 t wr → Calls Tryd.prog 44 #[stV R, .int .i64 1, .slice a1 t.b1.length c1, .int .i64 0] wr fun e w' => e = .returned (.int .i64 (t.cut 1 t.b1.length 0).2) ∧ DkPost R S1 wr (t.cut 1 t.b1.length 0).1 w') := fun S1 wr a1 c1 d => jcut_at R S1 t wr 1 a1 _ c1 0 ⟨by omega, by omega⟩ d
  have CU0 : Hid (∀ S1 wr a1 c1, DkAt R S1 (t.cut 1 t.b1.length 0).1 wr → Calls Tryd.prog 44 #[stV R, .int .i64 0, .slice a1 t.b0.length c1, .int .i64 0] wr fun e w' => e = .returned (.int .i64 ((t.cut 1 t.b1.length 0).1.cut 0 t.b0.length 0).2) ∧ DkPost R S1 wr ((t.cut 1 t.b1.length 0).1.cut 0 t.b0.length 0).1 w') := fun S1 wr a1 c1 d => jcut_at R S1 _ wr 0 a1 _ c1 0 ⟨by omega, by omega⟩ d
  have LA : Hid (∀ S1 wr a1 c1, DkAt R S1 ((t.cut 1 t.b1.length 0).1.cut 0 t.b0.length 0).1 wr → RdB wr (.slice a1 (CrcM.enc (hp 1 sn)).length c1) (CrcM.enc (hp 1 sn)) → (∀ g, (Value.slice a1 (CrcM.enc (hp 1 sn)).length c1).ownBlock = some g → ¬ S1 g) → Calls Tryd.prog 35 #[stV R, .int .i64 0, .slice a1 (CrcM.enc (hp 1 sn)).length c1] wr fun e w' => e = .returned (.int .i64 (((t.cut 1 t.b1.length 0).1.cut 0 t.b0.length 0).1.lay 0 (CrcM.enc (hp 1 sn))).2) ∧ DkPost R S1 wr (((t.cut 1 t.b1.length 0).1.cut 0 t.b0.length 0).1.lay 0 (CrcM.enc (hp 1 sn))).1 w') := fun S1 wr a1 c1 d hd ha => lay_at R S1 _ wr 0 _ a1 _ c1 ⟨by omega, by omega⟩ d hd FL (fun _ => ha)
  have LV : Hid (t.fmt (CrcM.enc (hp 1 sn)) = if (t.cut 1 t.b1.length 0).2 ≠ 0 then t.cut 1 t.b1.length 0 else if ((t.cut 1 t.b1.length 0).1.cut 0 t.b0.length 0).2 ≠ 0 then (t.cut 1 t.b1.length 0).1.cut 0 t.b0.length 0 else ((t.cut 1 t.b1.length 0).1.cut 0 t.b0.length 0).1.lay 0 (CrcM.enc (hp 1 sn))) := by
    show _ = _
    unfold Dk.fmt
    rw [if_neg (by rw [hdn]; decide)]
  have HS : Hid (∀ g, S g → g < w.heap.size) := hS
  have DK : Hid (∀ w1, Below w.heap.size w w1 → DkAt R S t w1) := fun w1 b1 => h.below b1
  clear h hr hl hd hT hdn W1 W0 hw hS FL
  generalize t.fmt (CrcM.enc (hp 1 sn)) = X at *
  generalize ((t.cut 1 t.b1.length 0).1.cut 0 t.b0.length 0).1.lay 0 (CrcM.enc (hp 1 sn)) = T2 at *
  generalize (t.cut 1 t.b1.length 0).1.cut 0 t.b0.length 0 = T0 at *
  generalize t.cut 1 t.b1.length 0 = T1 at *
  generalize CrcM.enc (hp 1 sn) = F at *
  generalize t.b0.length = l0 at *
  generalize t.b1.length = l1 at *
  obtain ⟨t1, e1⟩ := T1
  obtain ⟨t0, e0⟩ := T0
  obtain ⟨t2, e2⟩ := T2
  go_enter Tryd.func32, Tryd.ntmps32
  go_wp2_with fail
  refine HF.out.mono ?_
  rintro e w1 ⟨a2, c2, rfl, r1, b1⟩
  have B1 : Hid (Below w.heap.size w w1) := b1
  have F1 : Hid (RowB 5 w.heap.size w1 (.slice a2 F.length c2) F) := r1
  have R1 : Hid (Calls Tryd.prog 43 #[stV R] w1 fun e w' => Below w1.heap.size w1 w' ∧ ∃ a0 c0 a1 c1, e = .returned (.tuple #[.agg #[.slice a0 l0 c0, .slice a1 l1 c1], .int .i64 0])) := RB.out w1 b1
  clear b1 RB HF r1
  go_wp2_with fail
  refine R1.out.mono ?_
  rintro e w2 ⟨b2, a0, c0, a1, c1, rfl⟩
  have B2 : Hid (Below w.heap.size w w2) := below_trans B1.out b2
  have F2 : Hid (RowB 5 w.heap.size w2 (.slice a2 F.length c2) F) := RowV.later F1.out b2
  clear b2 B1 R1 F1
  go_upto_region 7 with (first
    | ((with_reducible refine at_store ?_); refine step_store rfl 83 _ _ rfl w2.heap.size 0 83 z2 [.slice a0 l0 c0, .slice a1 l1 c1] rfl rfl (Blk.new 83 z2 w2) (Nat.le_refl _) rfl (two_one _ _ _ _ _ _) ?_; intro w3 nb g3; have B3 : Hid (Below w.heap.size w w3 ∧ Blk w2.heap.size 83 [.slice a0 l0 c0, .slice a1 l1 c1] w3 ∧ RowB 5 w.heap.size w3 (.slice a2 F.length c2) F ∧ w.heap.size ≤ w2.heap.size) := ⟨below_row (below_trans B2.out (below_alloc _ _)) g3 B2.out.size, blk_put (Nat.le_refl _) nb, RowV.kept (RowV.later F2.out (below_alloc _ _)) g3 (fun g' hg' e' => by injection e' with e'; have := RowV.block_lt F2.out hg'; omega), B2.out.size⟩; clear nb g3 B2 F2))
  obtain ⟨B, hB⟩ : ∃ B, w2.heap.size = B := ⟨_, rfl⟩
  rw [hB] at B3 ⊢
  clear hB
  have Z0 : Hid (FS w R S B w3.heap.size (.slice a0 l0 c0) (.slice a1 l1 c1) F a2 c2 (w3.alloc (.cells #[.int .i64 1, .int .i64 0] 3)) t (w3.alloc (.cells #[.int .i64 1, .int .i64 0] 3)) ∧ Below w.heap.size w (w3.alloc (.cells #[.int .i64 1, .int .i64 0] 3))) := by
    obtain ⟨x1, x2, x3, x4⟩ := B3.out
    have x5 : Below w.heap.size w (w3.alloc (.cells #[.int .i64 1, .int .i64 0] 3)) := below_trans x1 (below_alloc _ _)
    have xs : (w3.alloc (.cells #[.int .i64 1, .int .i64 0] 3)).heap.size = w3.heap.size + 1 := by simp
    have xb := x2.lt
    have x6 := x1.size
    exact ⟨⟨DkPost.same (DK.out _ x5), x2.old _, Blk.new 3 [.int .i64 1, .int .i64 0] w3, (RowV.rd x3).later (below_alloc _ _), ⟨x4, by omega⟩, ⟨x6, by omega⟩, fun g hg => ⟨RowV.block_ge x3 hg, by have := RowV.block_lt x3 hg; omega⟩⟩, x5⟩
  clear B3 DK
  go_wp2_with fail
  generalize w3.alloc (.cells #[.int .i64 1, .int .i64 0] 3) = W at *
  obtain ⟨L, hL⟩ : ∃ L, w3.heap.size = L := ⟨_, rfl⟩
  rw [hL] at Z0 ⊢
  clear hL
  have BW : Hid (Below w.heap.size w W) := Z0.out.2
  go_loopw [29] (fun vk wr => (vk = .int .i64 0 ∧ Hid (FS w R S B L (.slice a0 l0 c0) (.slice a1 l1 c1) F a2 c2 W t wr)) ∨ (vk = .int .i64 1 ∧ Hid (e1 = 0) ∧ Hid (FS w R S B L (.slice a0 l0 c0) (.slice a1 l1 c1) F a2 c2 W t1 wr)) ∨ (vk = .int .i64 2 ∧ Hid (e1 = 0) ∧ Hid (e0 = 0) ∧ Hid (FS w R S B L (.slice a0 l0 c0) (.slice a1 l1 c1) F a2 c2 W t0 wr))) (fun vk _ => 2 - (intOf vk).toNat)
  case atStart => exact .inl ⟨rfl, Z0.out.1⟩
  case round =>
    clear Z0
    rcases hrel with ⟨rfl, H1⟩ | ⟨rfl, HP, H1⟩ | ⟨rfl, HP, HQ, H1⟩
    · obtain ⟨S1, D1, G1, K1⟩ := H1.out.p
      have x1 := H1.out.l.cell 0 _ rfl
      have x2 := H1.out.b.cell 1 _ rfl
      have C1 : Hid (Calls Tryd.prog 44 #[stV R, .int .i64 1, .slice a1 l1 c1, .int .i64 0] wr fun e w' => e = .returned (.int .i64 e1) ∧ DkPost R S1 wr t1 w') := CU1.out S1 wr a1 c1 D1
      have GG : Hid ((∀ g, S1 g → S g ∨ W.heap.size ≤ g) ∧ Kp S W wr) := ⟨G1, K1⟩
      clear D1 G1 K1 CU0 CU1 LA
      by_cases he : e1 = 0
      · have d1 : (e1 != 0) = false := by rw [he]; rfl
        have HE : Hid (e1 = 0) := he
        clear he
        go_wp2_with fail
        refine C1.out.mono ?_
        rintro e w4 ⟨rfl, P4⟩
        have H4 : Hid (FS w R S B L (.slice a0 l0 c0) (.slice a1 l1 c1) F a2 c2 W t1 w4) := H1.out.step HS.out GG.out.1 GG.out.2 P4
        clear P4 C1 H1 GG
        go_wp2_with fail
        go_roundw
        case rel => exact .inr (.inl ⟨by go_num, HE, H4⟩)
        case measure => simp [intOf]
      · have d1 : (e1 != 0) = true := bne_iff_ne.2 he
        have HX : Hid (X = (t1, e1)) := by show _ = _; rw [LV.out, if_pos (by simpa using he)]
        clear he LV
        go_wp2_with fail
        refine C1.out.mono ?_
        rintro e w4 ⟨rfl, P4⟩
        have H4 : Hid (DkPost R S w t1 w4) := DkPost.behind BW.out (DkPost.trans GG.out.1 GG.out.2 P4)
        clear P4 C1 H1 GG
        go_wp2_with fail
        go_ret
        rw [HX.out]
        exact ⟨rfl, H4.out⟩
    · obtain ⟨S1, D1, G1, K1⟩ := H1.out.p
      have x1 := H1.out.l.cell 1 _ rfl
      have x2 := H1.out.b.cell 0 _ rfl
      have C1 : Hid (Calls Tryd.prog 44 #[stV R, .int .i64 0, .slice a0 l0 c0, .int .i64 0] wr fun e w' => e = .returned (.int .i64 e0) ∧ DkPost R S1 wr t0 w') := CU0.out S1 wr a0 c0 D1
      have GG : Hid ((∀ g, S1 g → S g ∨ W.heap.size ≤ g) ∧ Kp S W wr) := ⟨G1, K1⟩
      clear D1 G1 K1 CU0 CU1 LA
      by_cases he : e0 = 0
      · have d1 : (e0 != 0) = false := by rw [he]; rfl
        have HE : Hid (e0 = 0) := he
        clear he
        go_wp2_with fail
        refine C1.out.mono ?_
        rintro e w4 ⟨rfl, P4⟩
        have H4 : Hid (FS w R S B L (.slice a0 l0 c0) (.slice a1 l1 c1) F a2 c2 W t0 w4) := H1.out.step HS.out GG.out.1 GG.out.2 P4
        clear P4 C1 H1 GG
        go_wp2_with fail
        go_roundw
        case rel => exact .inr (.inr ⟨by go_num, HP, HE, H4⟩)
        case measure => simp [intOf]
      · have d1 : (e0 != 0) = true := bne_iff_ne.2 he
        have HX : Hid (X = (t0, e0)) := by show _ = _; rw [LV.out, if_neg (by have := HP.out; simpa using this), if_pos (by simpa using he)]
        clear he LV
        go_wp2_with fail
        refine C1.out.mono ?_
        rintro e w4 ⟨rfl, P4⟩
        have H4 : Hid (DkPost R S w t0 w4) := DkPost.behind BW.out (DkPost.trans GG.out.1 GG.out.2 P4)
        clear P4 C1 H1 GG
        go_wp2_with fail
        go_ret
        rw [HX.out]
        exact ⟨rfl, H4.out⟩
    · obtain ⟨S1, D1, G1, K1⟩ := H1.out.p
      have HX : Hid (X = (t2, e2)) := by show _ = _; rw [LV.out, if_neg (by have := HP.out; simpa using this), if_neg (by have := HQ.out; simpa using this)]
      have C1 : Hid (Calls Tryd.prog 35 #[stV R, .int .i64 0, .slice a2 F.length c2] wr fun e w' => e = .returned (.int .i64 e2) ∧ DkPost R S1 wr t2 w') := LA.out S1 wr a2 c2 D1 H1.out.f (fun g hg hs => by
        have := H1.out.sf g hg
        rcases G1 g hs with h | h
        · have := HS.out g h; omega
        · omega)
      have GG : Hid ((∀ g, S1 g → S g ∨ W.heap.size ≤ g) ∧ Kp S W wr) := ⟨G1, K1⟩
      clear D1 G1 K1 CU0 CU1 LA LV
      go_wp2_with fail
      refine C1.out.mono ?_
      rintro e w4 ⟨rfl, P4⟩
      have H4 : Hid (DkPost R S w t2 w4) := DkPost.behind BW.out (DkPost.trans GG.out.1 GG.out.2 P4)
      clear P4 C1 H1 GG
      go_wp2_with fail
      go_ret
      rw [HX.out]
      exact ⟨rfl, H4.out⟩
end Go.Proofs.YtcmfehabcklbpaaDoor

namespace Go.Proofs.YtcmfehabcklbpaaDoor
open Go.RowKit JM

def rcL (ep : Int) (sv rv : Value) (cut : Int) : List Value := [.int .i64 ep, sv, rv, .int .i64 cut]
def rcZ : List Value := [.int .i64 0, .slice none 0 0, .slice none 0 0, .int .i64 0]
theorem rcZ_one : ∀ v ∈ rcZ, v.oneCell' = true := by
  intro v h
  simp only [rcZ, List.mem_cons, List.not_mem_nil, or_false] at h
  rcases h with rfl | rfl | rfl | rfl <;> rfl

set_option maxRecDepth 40000 in
set_option maxHeartbeats 1000000 in
theorem formatD_dn (R : Nat) (S : Nat → Prop) (t : Dk) (sn : List Nat) (ad : Option Addr) (n c : Nat) (w : World) (hdn : t.dn = true) (h : DkAt R S t w)
    (hr : ∀ b ∈ sn, b < 256) (hl : sn.length < 4194290) (hd : RdB w (.slice ad n c) sn) (hT : TabS w) :
    Calls Tryd.prog 9 #[.pointer (some ⟨R, 0, none⟩), .slice ad n c] w fun e w' => e = .returned (.int .i64 51) ∧ Below w.heap.size w w' := by
  have FM : Hid (Calls Tryd.prog 32 #[stV R, .slice ad n c] w fun e w' => e = .returned (.int .i64 51) ∧ Below w.heap.size w w') := format_dn R S t sn ad n c w hdn h hr hl hd hT
  clear h hr hl hd hT hdn
  go_enter Tryd.func9, Tryd.ntmps9
  go_wp2_with fail
  refine FM.out.mono ?_
  rintro e w1 ⟨rfl, b1⟩
  have B1 : Hid (Below w.heap.size w w1) := b1
  clear b1
  go_wp2_with fail
  go_ret
  exact ⟨rfl, B1.out⟩

set_option maxRecDepth 40000 in
set_option maxHeartbeats 1000000 in
theorem formatD_up (R : Nat) (S : Nat → Prop) (t : Dk) (sn : List Nat) (ad : Option Addr) (n c : Nat) (w : World) (hw : 0 ≤ t.wr ∧ t.wr < 1152921504606846976) (hdn : t.dn = false) (h : DkAt R S t w) (hS : ∀ g, S g → g < w.heap.size)
    (hr : ∀ b ∈ sn, b < 256) (hl : sn.length < 4194290) (hd : RdB w (.slice ad n c) sn) (hT : TabS w) :
    Calls Tryd.prog 9 #[.pointer (some ⟨R, 0, none⟩), .slice ad n c] w fun e w' => e = .returned (.int .i64 (t.fmt (CrcM.enc (hp 1 sn))).2) ∧ DkPost R S w (t.fmt (CrcM.enc (hp 1 sn))).1 w' := by
  have FM : Hid (Calls Tryd.prog 32 #[stV R, .slice ad n c] w fun e w' => e = .returned (.int .i64 (t.fmt (CrcM.enc (hp 1 sn))).2) ∧ DkPost R S w (t.fmt (CrcM.enc (hp 1 sn))).1 w') := format_up R S t sn ad n c w hw hdn h hS hr hl hd hT
  clear h hr hl hd hT hdn hS hw
  generalize t.fmt (CrcM.enc (hp 1 sn)) = X at *
  go_enter Tryd.func9, Tryd.ntmps9
  go_wp2_with fail
  refine FM.out.mono ?_
  rintro e w1 ⟨rfl, p1⟩
  have B1 : Hid (DkPost R S w X.1 w1) := p1
  clear p1
  go_wp2_with fail
  go_ret
  exact ⟨rfl, B1.out⟩

set_option maxRecDepth 40000 in
set_option maxHeartbeats 2000000 in
theorem recovered_dn (R : Nat) (S : Nat → Prop) (t : Dk) (w : World) (hdn : t.dn = true) (h : DkAt R S t w) :
    Calls Tryd.prog 33 #[stV R] w fun e w' => e = .returned (.tuple #[.pointer none, .agg rcZ.toArray, .int .i64 51]) ∧ Below w.heap.size w w' := by
  have b0 : Below w.heap.size w (w.alloc (.cells rcZ.toArray 34)) := below_alloc _ _
  have RB : Hid (Calls Tryd.prog 43 #[stV R] (w.alloc (.cells #[.int .i64 0, .slice none 0 0, .slice none 0 0, .int .i64 0] 34)) fun e w' => Below w.heap.size w w' ∧ Blk w.heap.size 34 rcZ w' ∧ e = .returned (.tuple #[.agg #[.slice none 0 0, .slice none 0 0], .int .i64 51])) := (readBoth_at R S t (w.alloc (.cells rcZ.toArray 34)) (h.below b0)).mono fun e w' ⟨h1, h2⟩ => ⟨below_trans b0 (h1.mono (by simp)), (Blk.new 34 rcZ w).below h1, by rw [if_pos hdn] at h2; exact h2⟩
  clear h hdn b0
  go_enter Tryd.func33, Tryd.ntmps33
  go_wp2_with fail
  refine RB.out.mono ?_
  rintro e w2 ⟨b2, k2, rfl⟩
  have B2 : Hid (Below w.heap.size w w2 ∧ Blk w.heap.size 34 rcZ w2) := ⟨b2, k2⟩
  clear b2 k2 RB
  go_wp2_with (first
    | ((with_reducible refine at_store ?_); refine step_store rfl 83 _ _ rfl w2.heap.size 0 83 z2 z2 rfl rfl (Blk.new 83 z2 w2) (Nat.le_refl _) rfl z2_one ?_; intro w3 nb g3; have B3 : Hid (Below w.heap.size w w3 ∧ Blk w.heap.size 34 rcZ w3) := ⟨below_row (below_trans B2.out.1 (below_alloc _ _)) g3 B2.out.1.size, (B2.out.2.old _).grown g3 (by have := B2.out.2.lt; omega)⟩; clear nb g3 B2)
    | ((with_reducible refine at_store ?_); refine step_store rfl 34 _ _ rfl w.heap.size 0 34 rcZ rcZ rfl rfl B3.out.2 (Nat.le_refl _) rfl rcZ_one ?_; intro w4 nb g4; have B4 : Hid (Below w.heap.size w w4 ∧ Blk w.heap.size 34 rcZ w4) := ⟨below_row B3.out.1 g4 (Nat.le_refl _), blk_put (Nat.le_refl _) nb⟩; clear nb g4 B3))
  refine ret_tmp_blk_tmp rfl rfl w.heap.size 34 rcZ _ rfl B4.out.2 Tryd.underlying34 rfl rfl ?_
  exact ⟨rfl, B4.out.1⟩
set_option maxRecDepth 40000 in
set_option maxHeartbeats 2000000 in
theorem recovered_blank (R : Nat) (S : Nat → Prop) (t : Dk) (w : World) (hdn : t.dn = false) (hn : newest t.b0 t.b1 = none) (h : DkAt R S t w) (hb0 : ∀ b ∈ t.b0, b < 256) (hb1 : ∀ b ∈ t.b1, b < 256) (hl0 : t.b0.length ≤ 1000000000000) (hl1 : t.b1.length ≤ 1000000000000) (hT : TabS w) :
    Calls Tryd.prog 33 #[stV R] w fun e w' => e = .returned (.tuple #[.pointer none, .agg rcZ.toArray, .int .i64 70]) ∧ Below w.heap.size w w' := by
  have b0 : Below w.heap.size w (w.alloc (.cells rcZ.toArray 34)) := below_alloc _ _
  have RB : Hid (Calls Tryd.prog 43 #[stV R] (w.alloc (.cells #[.int .i64 0, .slice none 0 0, .slice none 0 0, .int .i64 0] 34)) fun e w' => Below w.heap.size w w' ∧ Blk w.heap.size 34 rcZ w' ∧ ∃ a0 c0 a1 c1, e = .returned (.tuple #[.agg #[.slice a0 t.b0.length c0, .slice a1 t.b1.length c1], .int .i64 0]) ∧ RdB w' (.slice a0 t.b0.length c0) t.b0 ∧ RdB w' (.slice a1 t.b1.length c1) t.b1) := (readBoth_at R S t (w.alloc (.cells rcZ.toArray 34)) (h.below b0)).mono fun e w' ⟨h1, h2⟩ => ⟨below_trans b0 (h1.mono (by simp)), (Blk.new 34 rcZ w).below h1, by
    rw [if_neg (by rw [hdn]; decide)] at h2
    obtain ⟨a0, c0, a1, c1, e, r0, r1⟩ := h2
    exact ⟨a0, c0, a1, c1, e, RowV.rd r0, RowV.rd r1⟩⟩
  have NW : Hid (∀ a0 c0 a1 c1 w3, Below w.heap.size w w3 → RdB w3 (.slice a0 t.b0.length c0) t.b0 → RdB w3 (.slice a1 t.b1.length c1) t.b1 → Calls Tryd.prog 45 #[.agg #[.slice a0 t.b0.length c0, .slice a1 t.b1.length c1]] w3 fun e w' => e = .returned (.tuple #[.int .i64 0, .agg hdZ.toArray, .bool false]) ∧ Below w3.heap.size w3 w') := fun a0 c0 a1 c1 w3 b3 r0 r1 => (newest_at t.b0 t.b1 a0 a1 c0 c1 w3 hb0 hb1 hl0 hl1 r0 r1 (hT.below b3)).mono fun e w' ⟨h1, hv, h2, h3⟩ => by
    rw [hn] at h2 h3
    have h3 : hv = hdZ := h3
    subst h3
    exact ⟨h2, h1⟩
  clear h hdn b0 hn hb0 hb1 hl0 hl1 hT
  generalize t.b0 = x0 at *
  generalize t.b1 = x1 at *
  go_enter Tryd.func33, Tryd.ntmps33
  go_wp2_with fail
  refine RB.out.mono ?_
  rintro e w2 ⟨b2, k2, a0, c0, a1, c1, rfl, r0, r1⟩
  have B2 : Hid (Below w.heap.size w w2 ∧ Blk w.heap.size 34 rcZ w2) := ⟨b2, k2⟩
  have D2 : Hid (RdB w2 (.slice a0 x0.length c0) x0 ∧ RdB w2 (.slice a1 x1.length c1) x1) := ⟨r0, r1⟩
  clear b2 k2 RB r0 r1
  go_upto_region 2 with (first
    | ((with_reducible refine at_store ?_); refine step_store rfl 83 _ _ rfl w2.heap.size 0 83 z2 [.slice a0 x0.length c0, .slice a1 x1.length c1] rfl rfl (Blk.new 83 z2 w2) (Nat.le_refl _) rfl (two_one _ _ _ _ _ _) ?_; intro w3 nb g3; have B3 : Hid (Below w.heap.size w w3 ∧ Blk w.heap.size 34 rcZ w3 ∧ Blk w2.heap.size 83 [.slice a0 x0.length c0, .slice a1 x1.length c1] w3 ∧ Below w2.heap.size w2 w3) := ⟨below_row (below_trans B2.out.1 (below_alloc _ _)) g3 B2.out.1.size, (B2.out.2.old _).grown g3 (by have := B2.out.2.lt; omega), blk_put (Nat.le_refl _) nb, below_row (below_alloc _ _) g3 (Nat.le_refl _)⟩; clear nb g3 B2))
  have N3 : Hid (Calls Tryd.prog 45 #[.agg #[.slice a0 x0.length c0, .slice a1 x1.length c1]] w3 fun e w' => e = .returned (.tuple #[.int .i64 0, .agg hdZ.toArray, .bool false]) ∧ Below w3.heap.size w3 w') := NW.out a0 c0 a1 c1 w3 B3.out.1 (D2.out.1.later B3.out.2.2.2) (D2.out.2.later B3.out.2.2.2)
  clear D2 NW
  go_wp2_with (refine step_load rfl 83 _ rfl w2.heap.size 0 rfl [.slice a0 x0.length c0, .slice a1 x1.length c1] _ B3.out.2.2.1.all Tryd.underlying83 rfl rfl ?_)
  refine N3.out.mono ?_
  rintro e w4 ⟨rfl, b4⟩
  have B4 : Hid (Below w.heap.size w w4 ∧ Blk w.heap.size 34 rcZ w4) := ⟨below_trans B3.out.1 b4, B3.out.2.1.below b4⟩
  clear b4 B3 N3
  go_wp2_with (first
    | ((with_reducible refine at_store ?_); refine step_store rfl 88 _ _ rfl w4.heap.size 0 88 hdZ hdZ rfl rfl (Blk.new 88 hdZ w4) (Nat.le_refl _) rfl hdZ_one ?_; intro w5 nb g5; have B5 : Hid (Below w.heap.size w w5 ∧ Blk w.heap.size 34 rcZ w5) := ⟨below_row (below_trans B4.out.1 (below_alloc _ _)) g5 B4.out.1.size, (B4.out.2.old _).grown g5 (by have := B4.out.2.lt; omega)⟩; clear nb g5 B4)
    | ((with_reducible refine at_store ?_); refine step_store rfl 34 _ _ rfl w.heap.size 0 34 rcZ rcZ rfl rfl B5.out.2 (Nat.le_refl _) rfl rcZ_one ?_; intro w6 nb g6; have B6 : Hid (Below w.heap.size w w6 ∧ Blk w.heap.size 34 rcZ w6) := ⟨below_row B5.out.1 g6 (Nat.le_refl _), blk_put (Nat.le_refl _) nb⟩; clear nb g6 B5))
  refine ret_tmp_blk_tmp rfl rfl w.heap.size 34 rcZ _ rfl B6.out.2 Tryd.underlying34 rfl rfl ?_
  exact ⟨rfl, B6.out.1⟩
end Go.Proofs.YtcmfehabcklbpaaDoor
