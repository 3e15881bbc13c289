/-
  Ours: Compact, Epoch, Count.
-/
import Derived.Test.YtcmfehabcklbpaaDoorJouApp
namespace Go.Proofs.YtcmfehabcklbpaaDoor
open Go.RowKit JM

theorem JnPost.set {R J : Nat} {S : Nat → Prop} {w w2 : World} {t : Dk} {cs : List Value} (p : JnPost R J S w t cs w2) (hJ : ¬ S J ∧ J < w.heap.size) (i : Nat) (u : Value) : JnPost R J S w t (cs.set i u) (w2.setCell ⟨J, i, none⟩ u) := by
  obtain ⟨S1, d, g1, hb, k⟩ := p
  have kk := setCell_kp w2 J i u
  have nj : ¬ S1 J := fun h => (g1 J h).elim hJ.1 (fun h => by have := hJ.2; omega)
  exact ⟨S1, d.kp kk (fun g hg e => nj (e ▸ hg)), g1, hb.set u, k.trans kk (fun g _ h => .inr h)⟩

set_option maxRecDepth 40000 in
set_option maxHeartbeats 1000000 in
theorem compact_dead (R J : Nat) (f ep ct : Int) (v : Value) (w : World) (hb : Blk J 72 (jnL R f ep ct true) w) :
    Calls Tryd.prog 14 #[.pointer (some ⟨J, 0, none⟩), v] w fun e w' => e = .returned (.int .i64 51) ∧ w' = w := by
  have c4 := hb.cell 4 _ rfl
  clear hb
  go_enter Tryd.func14, Tryd.ntmps14
  go_wp2_with fail
  go_ret
  exact ⟨rfl, rfl⟩

set_option maxRecDepth 40000 in
set_option maxHeartbeats 1000000 in
theorem compact_last (R J : Nat) (f ct : Int) (v : Value) (w : World) (hb : Blk J 72 (jnL R f 9223372036854775807 ct false) w) :
    Calls Tryd.prog 14 #[.pointer (some ⟨J, 0, none⟩), v] w fun e w' => e = .returned (.int .i64 3) ∧ w' = w := by
  have c4 := hb.cell 4 _ rfl
  have c2 := hb.cell 2 _ rfl
  clear hb
  go_enter Tryd.func14, Tryd.ntmps14
  go_wp2_with fail
  go_ret
  exact ⟨rfl, rfl⟩

set_option maxRecDepth 40000 in
set_option maxHeartbeats 2000000 in
theorem compact_live (R J : Nat) (S : Nat → Prop) (t : Dk) (f : Int) (ep : Nat) (ct : Int) (sn : List Nat) (ad : Option Addr) (n c : Nat) (w : World) (hw : 0 ≤ t.wr ∧ t.wr < 1152921504606846976) (hf : f = 0 ∨ f = 1) (hep : ep < 9223372036854775807) (h : DkAt R S t w) (hS : ∀ g, S g → g < w.heap.size) (hb : Blk J 72 (jnL R f (ep : Int) ct false) w) (hJ : ¬ S J)
    (hr : ∀ b ∈ sn, b < 256) (hl : sn.length < 4194290) (hd : RdB w (.slice ad n c) sn) (hT : TabS w) :
    Calls Tryd.prog 14 #[.pointer (some ⟨J, 0, none⟩), .slice ad n c] w fun e w' => e = .returned (.int .i64 (t.renew (1 - f) (CrcM.enc (hp (ep + 1) sn))).2) ∧
      JnPost R J S w (t.renew (1 - f) (CrcM.enc (hp (ep + 1) sn))).1 (if (t.renew (1 - f) (CrcM.enc (hp (ep + 1) sn))).2 = 0 then jnL R (1 - f) ((ep : Int) + 1) 0 false else jnL R f (ep : Int) ct ((t.renew (1 - f) (CrcM.enc (hp (ep + 1) sn))).2 == 51)) w' := by
  have HF : Hid (Calls Tryd.prog 37 #[.int .i64 ((ep : Int) + 1), .slice ad n c] w (NewT w (CrcM.enc (hp (ep + 1) sn)))) := headerFrame_at (ep + 1) sn ad n c w (by omega) hr hl hd hT
  have FL : (CrcM.enc (hp (ep + 1) sn)).length ≤ 1000000000000 := by
    have := put_len10 (ep + 1) (by omega)
    rw [CrcM.enc_len]; simp [hp]; omega
  have RN : Hid (∀ a1 c1 w1, RowB 5 w.heap.size w1 (.slice a1 (CrcM.enc (hp (ep + 1) sn)).length c1) (CrcM.enc (hp (ep + 1) sn)) → Below w.heap.size w w1 → Calls Tryd.prog 39 #[stV R, .int .i64 (1 - f), .slice a1 (CrcM.enc (hp (ep + 1) sn)).length c1] w1 fun e w' => e = .returned (.int .i64 (t.renew (1 - f) (CrcM.enc (hp (ep + 1) sn))).2) ∧ DkPost R S w1 (t.renew (1 - f) (CrcM.enc (hp (ep + 1) sn))).1 w') := fun a1 c1 w1 r1 b1 =>
    renew_at R S t w1 (1 - f) _ a1 _ c1 hw (h.below b1) (RowV.rd r1) FL (fun g hg => ⟨fun hs => by have := hS g hs; have := RowV.block_ge r1 hg; omega, RowV.block_lt r1 hg⟩)
  have OT : Hid (∀ w1, Calls Tryd.prog 38 #[.int .i64 f] w1 fun e w' => e = .returned (.int .i64 (1 - f)) ∧ w1 = w') := fun w1 => (other_at f hf w1).mono fun e w' h => ⟨h.1, h.2.symm⟩
  have NJ : Hid (¬ S J ∧ J < w.heap.size) := ⟨hJ, hb.lt⟩
  have KB : Hid (∀ w1, Below w.heap.size w w1 → Blk J 72 (jnL R f (ep : Int) ct false) w1) := fun w1 b1 => hb.below b1
  have c4 := hb.cell 4 _ rfl
  have c2 := hb.cell 2 _ rfl
  have h1 : (ep : Int) < 9223372036854775807 := by omega
  have h2 : ((ep : Int) == 9223372036854775807) = false := beq_eq_false_iff_ne.2 (by omega)
  clear h hS hb hJ hr hl hd hT hw FL hf hep
  generalize t.renew (1 - f) (CrcM.enc (hp (ep + 1) sn)) = T1 at *
  generalize CrcM.enc (hp (ep + 1) sn) = F at *
  generalize 1 - f = f' at *
  obtain ⟨t1, e1⟩ := T1
  by_cases he : e1 = 0
  · subst he
    rw [if_pos rfl]
    go_enter Tryd.func14, Tryd.ntmps14
    go_wp2_with fail
    refine HF.out.mono ?_
    rintro e w1 ⟨a2, c2', rfl, r2, b2⟩
    have R1 : Hid (Calls Tryd.prog 39 #[stV R, .int .i64 f', .slice a2 F.length c2'] w1 fun e w' => e = .returned (.int .i64 0) ∧ DkPost R S w1 t1 w') := RN.out a2 c2' w1 r2 b2
    have B1 : Hid (Below w.heap.size w w1) := b2
    have K1 : Hid (Blk J 72 (jnL R f (ep : Int) ct false) w1) := KB.out w1 b2
    have x1 := K1.out.cell 1 _ rfl
    have x0 := K1.out.cell 0 _ rfl
    clear r2 b2 KB c4 c2 RN HF
    go_wp2_with fail
    refine (OT.out _).mono ?_
    rintro e w' ⟨rfl, rfl⟩
    go_wp2_with fail
    refine R1.out.mono ?_
    rintro e w2 ⟨rfl, P2⟩
    have J2 : Hid (Blk J 72 (jnL R f (ep : Int) ct false) w2) := by obtain ⟨S1, d1, g1, k1⟩ := P2; exact K1.out.kp k1 NJ.out.1
    have PP : Hid (JnPost R J S w t1 (jnL R f' ((ep : Int) + 1) 0 false) (((w2.setCell ⟨J, 1, none⟩ (.int .i64 f')).setCell ⟨J, 2, none⟩ (.int .i64 ((ep : Int) + 1))).setCell ⟨J, 3, none⟩ (.int .i64 0))) := ((JnPost.of (DkPost.behind B1.out P2) J2.out NJ.out 1 _).set NJ.out 2 _).set NJ.out 3 _
    have y1 := J2.out.cell 1 _ rfl
    have y2 := J2.out.cell 2 _ rfl
    have y3 := J2.out.cell 3 _ rfl
    have f1 := J2.out.fz 1
    have f2 := J2.out.fz 2
    have f3 := J2.out.fz 3
    clear P2 J2 x0 x1 K1 B1 R1 OT
    go_wp2_with fail
    go_ret
    exact ⟨rfl, PP.out⟩
  · rw [if_neg he]
    have d1 : (e1 != 0) = true := bne_iff_ne.2 he
    have RE : Hid (∀ w2, Blk J 72 (jnL R f (ep : Int) ct false) w2 → Calls Tryd.prog 36 #[.pointer (some ⟨J, 0, none⟩), .int .i64 e1] w2 fun r w' => r = .returned (.int .i64 e1) ∧ w' = w2.setCell ⟨J, 4, none⟩ (.bool (e1 == 51))) := fun w2 h2 => refused_at J R f (ep : Int) ct false e1 w2 h2
    clear he
    go_enter Tryd.func14, Tryd.ntmps14
    go_wp2_with fail
    refine HF.out.mono ?_
    rintro e w1 ⟨a2, c2', rfl, r2, b2⟩
    have R1 : Hid (Calls Tryd.prog 39 #[stV R, .int .i64 f', .slice a2 F.length c2'] w1 fun e w' => e = .returned (.int .i64 e1) ∧ DkPost R S w1 t1 w') := RN.out a2 c2' w1 r2 b2
    have B1 : Hid (Below w.heap.size w w1) := b2
    have K1 : Hid (Blk J 72 (jnL R f (ep : Int) ct false) w1) := KB.out w1 b2
    have x1 := K1.out.cell 1 _ rfl
    have x0 := K1.out.cell 0 _ rfl
    clear r2 b2 KB c4 c2 RN HF
    go_wp2_with fail
    refine (OT.out _).mono ?_
    rintro e w' ⟨rfl, rfl⟩
    go_wp2_with fail
    refine R1.out.mono ?_
    rintro e w2 ⟨rfl, P2⟩
    have J2 : Hid (Blk J 72 (jnL R f (ep : Int) ct false) w2) := by obtain ⟨S1, d1, g1, k1⟩ := P2; exact K1.out.kp k1 NJ.out.1
    have PP : Hid (JnPost R J S w t1 (jnL R f (ep : Int) ct (e1 == 51)) (w2.setCell ⟨J, 4, none⟩ (.bool (e1 == 51)))) := JnPost.of (DkPost.behind B1.out P2) J2.out NJ.out 4 _
    have R2 : Hid (Calls Tryd.prog 36 #[.pointer (some ⟨J, 0, none⟩), .int .i64 e1] w2 fun r w' => r = .returned (.int .i64 e1) ∧ w' = w2.setCell ⟨J, 4, none⟩ (.bool (e1 == 51))) := RE.out w2 J2.out
    clear P2 J2 x0 x1 K1 B1 R1 OT RE
    generalize w2.setCell ⟨J, 4, none⟩ (.bool (e1 == 51)) = w3 at *
    go_wp2_with fail
    refine R2.out.mono ?_
    rintro e w' ⟨rfl, rfl⟩
    go_wp2_with fail
    go_ret
    exact ⟨rfl, PP.out⟩

set_option maxRecDepth 40000 in
theorem epoch_at (R J : Nat) (f ep ct : Int) (dd : Bool) (w : World) (hb : Blk J 72 (jnL R f ep ct dd) w) :
    Calls Tryd.prog 29 #[.pointer (some ⟨J, 0, none⟩)] w fun e w' => e = .returned (.int .i64 ep) ∧ w' = w := by
  have c2 := hb.cell 2 _ rfl
  clear hb
  go_enter Tryd.func29, Tryd.ntmps29
  go_wp2_with fail
  go_ret
  exact ⟨rfl, rfl⟩
set_option maxRecDepth 40000 in
theorem count_at (R J : Nat) (f ep ct : Int) (dd : Bool) (w : World) (hb : Blk J 72 (jnL R f ep ct dd) w) :
    Calls Tryd.prog 30 #[.pointer (some ⟨J, 0, none⟩)] w fun e w' => e = .returned (.int .i64 ct) ∧ w' = w := by
  have c3 := hb.cell 3 _ rfl
  clear hb
  go_enter Tryd.func30, Tryd.ntmps30
  go_wp2_with fail
  go_ret
  exact ⟨rfl, rfl⟩
end Go.Proofs.YtcmfehabcklbpaaDoor
