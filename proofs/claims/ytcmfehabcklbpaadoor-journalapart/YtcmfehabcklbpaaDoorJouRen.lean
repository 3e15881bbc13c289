/-
  Ours: renew.
-/
import Derived.Test.YtcmfehabcklbpaaDoorJouRec
namespace Go.Proofs.YtcmfehabcklbpaaDoor
open Go.RowKit JM

def Dk.renew (t : Dk) (n : Int) (f : List Nat) : Dk × Int :=
  if (t.read n).2 ≠ 0 then (t, (t.read n).2) else if (t.cut n (t.read n).1.length 0).2 ≠ 0 then t.cut n (t.read n).1.length 0 else (t.cut n (t.read n).1.length 0).1.lay n f
theorem DkPost.behind {R : Nat} {S : Nat → Prop} {t : Dk} {w w1 w' : World} (hb : Below w.heap.size w w1) (p : DkPost R S w1 t w') : DkPost R S w t w' := by
  obtain ⟨S1, d, g1, k⟩ := p
  exact ⟨S1, d, fun g h => (g1 g h).imp id (fun h => Nat.le_trans hb.size h), (Kp.of_below hb S).trans k (fun _ _ h => h)⟩
theorem renew_wr (t : Dk) (n : Int) (f : List Nat) : t.wr ≤ (t.renew n f).1.wr ∧ (t.renew n f).1.wr ≤ t.wr + 3 := by
  have h1 := cut_wr t n (t.read n).1.length 0
  have h2 := lay_wr (t.cut n (t.read n).1.length 0).1 n f
  unfold Dk.renew
  split
  · show t.wr ≤ t.wr ∧ t.wr ≤ t.wr + 3; omega
  · split <;> omega

set_option maxRecDepth 40000 in
set_option maxHeartbeats 1000000 in
theorem renew_at (R : Nat) (S : Nat → Prop) (t : Dk) (w : World) (n : Int) (ds : List Nat) (ad : Option Addr) (m cd : Nat) (hw : 0 ≤ t.wr ∧ t.wr < 1152921504606846976) (h : DkAt R S t w) (hd : RdB w (.slice ad m cd) ds) (hl : ds.length ≤ 1000000000000) (hap : ∀ g, (Value.slice ad m cd).ownBlock = some g → ¬ S g ∧ g < w.heap.size) :
    Calls Tryd.prog 39 #[stV R, .int .i64 n, .slice ad m cd] w fun e w' => e = .returned (.int .i64 (t.renew n ds).2) ∧ DkPost R S w (t.renew n ds).1 w' := by
  have RD : Hid (Calls Tryd.prog 78 #[.pointer (some ⟨R, 0, none⟩), .int .i64 n] w (NewE w (t.read n))) := read_at R S t w n h
  have WR := cut_wr t n (t.read n).1.length 0
  have CU : Hid (∀ w1 a1 c1, Below w.heap.size w w1 → Calls Tryd.prog 44 #[stV R, .int .i64 n, .slice a1 (t.read n).1.length c1, .int .i64 0] w1 fun e w' => e = .returned (.int .i64 (t.cut n (t.read n).1.length 0).2) ∧ DkPost R S w1 (t.cut n (t.read n).1.length 0).1 w') := fun w1 a1 c1 b1 => jcut_at R S t w1 n a1 _ c1 0 ⟨hw.1, by omega⟩ (h.below b1)
  have LA : Hid (∀ S1 w1 w2, Below w.heap.size w w1 → DkAt R S1 (t.cut n (t.read n).1.length 0).1 w2 → (∀ g, S1 g → S g ∨ w1.heap.size ≤ g) → Kp S w1 w2 → Calls Tryd.prog 35 #[stV R, .int .i64 n, .slice ad m cd] w2 fun e w' => e = .returned (.int .i64 ((t.cut n (t.read n).1.length 0).1.lay n ds).2) ∧ DkPost R S1 w2 ((t.cut n (t.read n).1.length 0).1.lay n ds).1 w') := fun S1 w1 w2 b1 d2 g2 k2 =>
    lay_at R S1 _ w2 n ds ad m cd ⟨by omega, by omega⟩ d2 ((hd.later b1).kp k2 (fun g hg => (hap g hg).1)) hl (fun _ g hg hs => by
      rcases g2 g hs with h | h
      · exact (hap g hg).1 h
      · have := (hap g hg).2; have := b1.size; omega)
  have LV : Hid (t.renew n ds = if (t.read n).2 ≠ 0 then (t, (t.read n).2) else if (t.cut n (t.read n).1.length 0).2 ≠ 0 then t.cut n (t.read n).1.length 0 else (t.cut n (t.read n).1.length 0).1.lay n ds) := rfl
  have SM : Hid (∀ w1, Below w.heap.size w w1 → DkPost R S w t w1) := fun w1 b1 => DkPost.behind b1 (DkPost.same (h.below b1))
  clear h hd hl hap hw WR
  have mr := meth_read R
  generalize t.renew n ds = L at *
  generalize (t.cut n (t.read n).1.length 0).1.lay n ds = T2 at *
  generalize t.cut n (t.read n).1.length 0 = T1 at *
  generalize t.read n = T0 at *
  obtain ⟨t1, e1⟩ := T1
  obtain ⟨t2, e2⟩ := T2
  obtain ⟨bs, e0⟩ := T0
  by_cases h0 : e0 = 0
  · have d0 : (e0 != 0) = false := by rw [h0]; rfl
    by_cases he : e1 = 0
    · obtain rfl : L = (t2, e2) := by rw [LV.out, if_neg (by simpa using h0), if_neg (by simpa using he)]
      have d1 : (e1 != 0) = false := by rw [he]; rfl
      clear he h0 LV SM
      go_enter Tryd.func39, Tryd.ntmps39
      go_wp2_with fail
      refine RD.out.mono ?_
      rintro e w1 ⟨a1, c1, rfl, -, b1⟩
      have B1 : Hid (Below w.heap.size w w1) := b1
      have C1 : Hid (Calls Tryd.prog 44 #[stV R, .int .i64 n, .slice a1 bs.length c1, .int .i64 0] w1 fun e w' => e = .returned (.int .i64 e1) ∧ DkPost R S w1 t1 w') := CU.out w1 a1 c1 b1
      clear b1 CU RD
      go_wp2_with fail
      refine C1.out.mono ?_
      rintro e w2 ⟨rfl, S1, D2, G2, K2⟩
      have C2 : Hid (Calls Tryd.prog 35 #[stV R, .int .i64 n, .slice ad m cd] w2 fun e w' => e = .returned (.int .i64 e2) ∧ DkPost R S1 w2 t2 w') := LA.out S1 w1 w2 B1.out D2 G2 K2
      have GG : Hid ((∀ g, S1 g → S g ∨ w1.heap.size ≤ g) ∧ Kp S w1 w2) := ⟨G2, K2⟩
      clear D2 G2 K2 C1 LA
      go_wp2_with fail
      refine C2.out.mono ?_
      rintro e w3 ⟨rfl, P3⟩
      have PP : Hid (DkPost R S w t2 w3) := DkPost.behind B1.out (DkPost.trans GG.out.1 GG.out.2 P3)
      clear P3
      go_wp2_with fail
      go_ret
      exact ⟨rfl, PP.out⟩
    · obtain rfl : L = (t1, e1) := by rw [LV.out, if_neg (by simpa using h0), if_pos (by simpa using he)]
      have d1 : (e1 != 0) = true := bne_iff_ne.2 he
      clear he h0 LV SM LA
      go_enter Tryd.func39, Tryd.ntmps39
      go_wp2_with fail
      refine RD.out.mono ?_
      rintro e w1 ⟨a1, c1, rfl, -, b1⟩
      have B1 : Hid (Below w.heap.size w w1) := b1
      have C1 : Hid (Calls Tryd.prog 44 #[stV R, .int .i64 n, .slice a1 bs.length c1, .int .i64 0] w1 fun e w' => e = .returned (.int .i64 e1) ∧ DkPost R S w1 t1 w') := CU.out w1 a1 c1 b1
      clear b1 CU RD
      go_wp2_with fail
      refine C1.out.mono ?_
      rintro e w2 ⟨rfl, P2⟩
      have PP : Hid (DkPost R S w t1 w2) := DkPost.behind B1.out P2
      clear P2 C1
      go_wp2_with fail
      go_ret
      exact ⟨rfl, PP.out⟩
  · obtain rfl : L = (t, e0) := by rw [LV.out, if_pos (by simpa using h0)]
    have d0 : (e0 != 0) = true := bne_iff_ne.2 h0
    clear h0 LV LA CU
    go_enter Tryd.func39, Tryd.ntmps39
    go_wp2_with fail
    refine RD.out.mono ?_
    rintro e w1 ⟨a1, c1, rfl, -, b1⟩
    have PP : Hid (DkPost R S w t w1) := SM.out _ b1
    clear b1 RD
    go_wp2_with fail
    go_ret
    exact ⟨rfl, PP.out⟩
end Go.Proofs.YtcmfehabcklbpaaDoor
