/-
  Ours: goDown and write.
-/
import Derived.Test.YtcmfehabcklbpaaDoorDskDel
namespace Go.Proofs.YtcmfehabcklbpaaDoor
open Go.RowKit

theorem row_shape {e : TypeId} {base : Nat} {w : World} {v : Value} {xs : List Value} (h : RowV e base w v xs) : ∃ a c, v = .slice a xs.length c ∧ xs.length ≤ c := by
  obtain ⟨a, c, e, h1, _⟩ := h.rd.len
  exact ⟨a, c, e, h1⟩
theorem own_same (a : Option Addr) (n c k c' : Nat) : (Value.slice a n c).ownBlock = (Value.slice a k c').ownBlock := by cases a <;> rfl
theorem drewN_kp (M : Nat → Prop) (w : World) (m : Nat) : Kp M w (w.drewN m) := ⟨rfl, rfl, rfl, Nat.le_refl _, fun _ _ _ => rfl⟩
theorem setCell_kp (w : World) (R i : Nat) (u : Value) : Kp (fun g => g = R) w (w.setCell ⟨R, i, none⟩ u) := (Kp.of_grown (setCell_grown w R i u)).mono (fun g _ h => by injection h with h; exact h.symm)

/-- One cell of the disk's own block is written. -/
theorem DkV.store {R : Nat} {S : Nat → Prop} {t : Dk} {v0 v1 vq : Value} {w : World} (h : DkV R S t v0 v1 vq w) (i : Nat) (u : Value) : RowB 5 0 (w.setCell ⟨R, i, none⟩ u) v0 t.b0 ∧ RowB 5 0 (w.setCell ⟨R, i, none⟩ u) v1 t.b1 ∧ RowQ (w.setCell ⟨R, i, none⟩ u) vq t.q ∧ (∀ g, S g → g < (w.setCell ⟨R, i, none⟩ u).heap.size) :=
  ⟨h.r0.kp (setCell_kp w R i u) (fun g hg => (h.s0 g hg).2), h.r1.kp (setCell_kp w R i u) (fun g hg => (h.s1 g hg).2.1), RowQ.kp h.rq (setCell_kp w R i u) (fun g hg => (h.sq g hg).2.1), fun g hg => Nat.lt_of_lt_of_le (h.s g hg) (setCell_kp w R i u).size⟩
theorem DkV.drewN {R : Nat} {S : Nat → Prop} {t : Dk} {v0 v1 vq : Value} {w : World} (h : DkV R S t v0 v1 vq w) (m : Nat) : DkV R S t v0 v1 vq (w.drewN m) := h.kp (drewN_kp (fun _ => False) w m) (fun _ _ h => h)
/-- The first file's bytes and its durable number are laid anew: the bytes lie in the same row, cut. -/
theorem DkV.cut0 {R : Nat} {S : Nat → Prop} {t : Dk} {a : Option Addr} {n c : Nat} {v1 vq : Value} {w : World} (h : DkV R S t (.slice a n c) v1 vq w) {k : Nat} (hk : k ≤ n) :
    DkV R S { t with b0 := t.b0.take k, d0 := k } (.slice a k c) v1 vq ((w.setCell ⟨R, 0, none⟩ (.slice a k c)).setCell ⟨R, 1, none⟩ (.int .i64 (k : Int))) := by
  have B1 : Blk R 67 _ _ := Blk.set (i := 1) (Blk.set (i := 0) h.blk (.slice a k c)) (.int .i64 (k : Int))
  have k1 := setCell_kp w R 0 (.slice a k c)
  have k2 := k1.trans (setCell_kp (w.setCell ⟨R, 0, none⟩ (.slice a k c)) R 1 (.int .i64 (k : Int))) (fun g _ h => h)
  have r0 : RowB 5 0 w (.slice a k c) (t.b0.take k) := by have := h.r0.cut hk; rw [← List.map_take] at this; exact this
  have eo := own_same a n c k c
  have s0 := h.s0
  have s1 := h.s1
  have sq := h.sq
  rw [eo] at s0 s1 sq
  exact ⟨B1, r0.kp k2 (fun g hg => (s0 g hg).2), h.r1.kp k2 (fun g hg => (s1 g hg).2.1), RowQ.kp h.rq k2 (fun g hg => (sq g hg).2.1), fun g hg => Nat.lt_of_lt_of_le (h.s g hg) k2.size, h.sR, s0, s1, sq⟩
theorem DkV.cut1 {R : Nat} {S : Nat → Prop} {t : Dk} {a : Option Addr} {n c : Nat} {v0 vq : Value} {w : World} (h : DkV R S t v0 (.slice a n c) vq w) {k : Nat} (hk : k ≤ n) :
    DkV R S { t with b1 := t.b1.take k, d1 := k } v0 (.slice a k c) vq ((w.setCell ⟨R, 2, none⟩ (.slice a k c)).setCell ⟨R, 3, none⟩ (.int .i64 (k : Int))) := by
  have B1 : Blk R 67 _ _ := Blk.set (i := 3) (Blk.set (i := 2) h.blk (.slice a k c)) (.int .i64 (k : Int))
  have k1 := setCell_kp w R 2 (.slice a k c)
  have k2 := k1.trans (setCell_kp (w.setCell ⟨R, 2, none⟩ (.slice a k c)) R 3 (.int .i64 (k : Int))) (fun g _ h => h)
  have r1 : RowB 5 0 w (.slice a k c) (t.b1.take k) := by have := h.r1.cut hk; rw [← List.map_take] at this; exact this
  have eo := own_same a n c k c
  have s0 := h.s0
  have s1 := h.s1
  have sq := h.sq
  rw [eo] at s1 sq
  exact ⟨B1, h.r0.kp k2 (fun g hg => (s0 g hg).2), r1.kp k2 (fun g hg => (s1 g hg).2.1), RowQ.kp h.rq k2 (fun g hg => (sq g hg).2.1), fun g hg => Nat.lt_of_lt_of_le (h.s g hg) k2.size, h.sR, s0, s1, sq⟩

/-- How many bytes a crash leaves. -/
def left (b : List Nat) (d keep : Nat) : Nat := d + min keep (b.length - d)
def Dk.lose0 (t : Dk) (keep : Nat) : Dk := { t with b0 := t.b0.take (left t.b0 t.d0 keep), d0 := left t.b0 t.d0 keep }
def Dk.lose1 (t : Dk) (keep : Nat) : Dk := { t with b1 := t.b1.take (left t.b1 t.d1 keep), d1 := left t.b1 t.d1 keep }
def Dk.down (t : Dk) (keep : Nat) : Dk := { (t.lose0 keep).lose1 keep with q := t.q.tail, dn := true }
theorem left_le {b : List Nat} {d keep : Nat} (h : d ≤ b.length) : left b d keep ≤ b.length := by unfold left; omega

set_option maxRecDepth 20000 in
set_option maxHeartbeats 2000000 in
theorem goDown_at (R : Nat) (S : Nat → Prop) (t : Dk) (v0 v1 vq : Value) (w : World) (keep : Nat) (hk : keep ≤ 16777216) (c0 : Int × Int) (q : List (Int × Int)) (hq : t.q = c0 :: q) (okd0 : t.d0 ≤ t.b0.length) (okl0 : t.b0.length ≤ 16777216) (okd1 : t.d1 ≤ t.b1.length) (okl1 : t.b1.length ≤ 16777216) (okq : t.q.length ≤ 64) (h : DkV R S t v0 v1 vq w) :
    Calls Tryd.prog 86 #[.pointer (some ⟨R, 0, none⟩), .int .i64 (keep : Int)] w fun e w' => e = .returned (.tuple #[]) ∧ ∃ v0' v1' vq', DkV R S (t.down keep) v0' v1' vq' w' ∧ Kp S w w' := by
  obtain ⟨a0, n0c, e0, hc0⟩ := row_shape h.r0
  obtain ⟨a1, n1c, e1, hc1⟩ := row_shape h.r1
  rw [List.length_map] at e0 e1 hc0 hc1
  subst e0 e1
  have L0 : Hid (∀ w, DkV R S t (.slice a0 t.b0.length n0c) (.slice a1 t.b1.length n1c) vq w → Calls Tryd.prog 87 #[.pointer (some ⟨R, 0, none⟩), .int .i64 (keep : Int)] w fun e w' => e = .returned (.tuple #[]) ∧ DkV R S (t.lose0 keep) (.slice a0 (left t.b0 t.d0 keep) n0c) (.slice a1 t.b1.length n1c) vq w' ∧ Kp S w w') := fun w h => by
    refine (lose_at R 0 t.b0.length n0c t.d0 keep a0 w okd0 okl0 hc0 hk (h.blk.cell 0 _ rfl) (h.blk.fz 0) (h.blk.cell 1 _ rfl) (h.blk.fz 1)).mono ?_
    rintro e w' ⟨rfl, m, rfl⟩
    refine ⟨rfl, (h.drewN m).cut0 (left_le okd0), ?_⟩
    have k1 := (drewN_kp S w m).trans (setCell_kp (w.drewN m) R 0 (.slice a0 (left t.b0 t.d0 keep) n0c)) (fun g _ e => e ▸ h.sR)
    exact k1.trans (setCell_kp _ R 1 _) (fun g _ e => e ▸ h.sR)
  have L1 : Hid (∀ w, DkV R S (t.lose0 keep) (.slice a0 (left t.b0 t.d0 keep) n0c) (.slice a1 t.b1.length n1c) vq w → Calls Tryd.prog 87 #[.pointer (some ⟨R, 2, none⟩), .int .i64 (keep : Int)] w fun e w' => e = .returned (.tuple #[]) ∧ DkV R S ((t.lose0 keep).lose1 keep) (.slice a0 (left t.b0 t.d0 keep) n0c) (.slice a1 (left t.b1 t.d1 keep) n1c) vq w' ∧ Kp S w w') := fun w h => by
    refine (lose_at R 2 t.b1.length n1c t.d1 keep a1 w okd1 okl1 hc1 hk (h.blk.cell 2 _ rfl) (h.blk.fz 2) (h.blk.cell 3 _ rfl) (h.blk.fz 3)).mono ?_
    rintro e w' ⟨rfl, m, rfl⟩
    refine ⟨rfl, (h.drewN m).cut1 (left_le okd1), ?_⟩
    have k1 := (drewN_kp S w m).trans (setCell_kp (w.drewN m) R 2 (.slice a1 (left t.b1 t.d1 keep) n1c)) (fun g _ e => e ▸ h.sR)
    exact k1.trans (setCell_kp _ R 3 _) (fun g _ e => e ▸ h.sR)
  have TQ : Hid (t.q = c0 :: q) := hq
  have HQ64 : Hid (q.length ≤ 64) := by have := okq; rw [hq] at this; simp at this; show _ ≤ _; omega
  obtain ⟨l0, hl0⟩ : ∃ l, left t.b0 t.d0 keep = l := ⟨_, rfl⟩
  obtain ⟨l1, hl1⟩ : ∃ l, left t.b1 t.d1 keep = l := ⟨_, rfl⟩
  rw [hl0] at L0 L1
  rw [hl1] at L1
  obtain ⟨t1, ht1⟩ : ∃ t1, t.lose0 keep = t1 := ⟨_, rfl⟩
  obtain ⟨t2, ht2⟩ : ∃ t2, t1.lose1 keep = t2 := ⟨_, rfl⟩
  have E3 : Hid (t.down keep = { t2 with q := q, dn := true }) := by show _ = _; unfold Dk.down; rw [ht1, ht2, hq]; rfl
  have E4 : Hid (t2.q = c0 :: q) := by show _ = _; rw [← ht2, ← ht1]; exact hq
  rw [ht1] at L0 L1
  rw [ht2] at L1
  rw [E3.out]
  clear ht1 ht2 hl0 hl1 hq TQ E3 okq
  generalize t.b0.length = n0 at *
  generalize t.b1.length = n1 at *
  clear okd0 okd1 okl0 okl1
  go_enter Tryd.func86, Tryd.ntmps86
  go_wp2_with fail
  go_loopw [5] (fun vk wr => ((vk = .int .i64 0 ∧ DkV R S t (.slice a0 n0 n0c) (.slice a1 n1 n1c) vq wr) ∨ (vk = .int .i64 1 ∧ DkV R S t1 (.slice a0 l0 n0c) (.slice a1 n1 n1c) vq wr) ∨ (vk = .int .i64 2 ∧ DkV R S t2 (.slice a0 l0 n0c) (.slice a1 l1 n1c) vq wr)) ∧ Kp S w wr) (fun vk _ => 2 - (intOf vk).toNat)
  case atStart => exact ⟨.inl ⟨rfl, h⟩, Kp.refl _ _⟩
  case round =>
    clear h
    obtain ⟨h | h | h, hk⟩ := hrel
    · obtain ⟨rfl, h⟩ := h
      go_wp2_with fail
      refine (L0.out _ h).mono ?_
      rintro e w2 ⟨rfl, h2, k2⟩
      have K2 := hk.trans k2 (fun g _ h => h)
      clear h hk k2
      go_wp2_with fail
      go_roundw
      case rel => exact ⟨.inr (.inl ⟨rfl, h2⟩), K2⟩
      case measure => simp [intOf]
    · obtain ⟨rfl, h⟩ := h
      go_wp2_with fail
      refine (L1.out _ h).mono ?_
      rintro e w2 ⟨rfl, h2, k2⟩
      have K2 := hk.trans k2 (fun g _ h => h)
      clear h hk k2
      go_wp2_with fail
      go_roundw
      case rel => exact ⟨.inr (.inr ⟨rfl, h2⟩), K2⟩
      case measure => simp [intOf]
    · obtain ⟨rfl, h⟩ := h
      obtain ⟨g, nq, rfl, rq⟩ : ∃ g c, vq = .slice (some ⟨g, 0, none⟩) (q.length + 1) c ∧ RowQ wr vq (c0 :: q) := by
        have := h.rq
        rw [E4.out] at this
        rcases this.2 with ⟨_, e⟩ | ⟨g, cap, cur, e, _⟩
        · simp at e
        · exact ⟨g, cap, by simpa using e, this⟩
      have DE : Hid (∀ w', RowQ w' (.slice (some ⟨g, 0, none⟩) (q.length + 1) nq) (c0 :: q) → Calls Tryd.prog 88 #[.slice (some ⟨g, 0, none⟩) (q.length + 1) nq, .int .i64 0, .int .i64 1] w' fun e w'' => e = .returned (.slice (some ⟨g, 0, none⟩) q.length nq) ∧ RowQ w'' (.slice (some ⟨g, 0, none⟩) q.length nq) q ∧ w'.grownBy w'' (some g)) := fun w' h => delete_at q c0 g q.length nq w' h rfl HQ64.out
      obtain ⟨N, hN⟩ : ∃ N, q.length = N := ⟨_, rfl⟩
      have HN : Hid (q.length = N) := hN
      obtain ⟨M, hM⟩ : ∃ M, N + 1 = M := ⟨_, rfl⟩
      rw [hN, hM] at DE h rq
      have c4 := h.blk.cell 4 _ rfl
      clear hN hM
      go_wp2_with fail
      refine (DE.out _ rq).mono ?_
      rintro e w2 ⟨rfl, rq2, g2⟩
      have k2 := Kp.of_grown g2
      have sg := h.sq g rfl
      have b2 := h.blk.kp k2 (fun e => sg.2.1 (by injection e))
      have r0 := h.r0.kp k2 (fun x hx e => sg.2.2.1 (by injection e with e; rw [e]; exact hx))
      have r1 := h.r1.kp k2 (fun x hx e => sg.2.2.2 (by injection e with e; rw [e]; exact hx))
      have H2 : DkV R S { t2 with q := q } (.slice a0 l0 n0c) (.slice a1 l1 n1c) (.slice (some ⟨g, 0, none⟩) M nq) w2 → True := fun _ => trivial
      have K2 := hk.trans k2 (fun x _ e => by injection e with e; rw [← e]; exact sg.1)
      have c4' := b2.cell 4 _ rfl
      have f4 := b2.fz 4
      have b3 : Blk R 67 _ _ := Blk.set (i := 4) b2 (.slice (some ⟨g, 0, none⟩) N nq)
      have b4 : Blk R 67 _ _ := Blk.set (i := 6) b3 (.bool true)
      have k3 := setCell_kp w2 R 4 (.slice (some ⟨g, 0, none⟩) N nq)
      have k34 := k3.trans (setCell_kp (w2.setCell ⟨R, 4, none⟩ (.slice (some ⟨g, 0, none⟩) N nq)) R 6 (.bool true)) (fun g _ h => h)
      have c6 := b2.cell 6 _ rfl
      have f6 := b2.fz 6
      have FIN : Hid (DkV R S { t2 with q := q, dn := true } (.slice a0 l0 n0c) (.slice a1 l1 n1c) (.slice (some ⟨g, 0, none⟩) N nq) ((w2.setCell ⟨R, 4, none⟩ (.slice (some ⟨g, 0, none⟩) N nq)).setCell ⟨R, 6, none⟩ (.bool true)) ∧ Kp S w ((w2.setCell ⟨R, 4, none⟩ (.slice (some ⟨g, 0, none⟩) N nq)).setCell ⟨R, 6, none⟩ (.bool true))) :=
        ⟨⟨b4, r0.kp k34 (fun x hx => (h.s0 x hx).2), r1.kp k34 (fun x hx => (h.s1 x hx).2.1), RowQ.kp rq2 k34 (fun x hx => (h.sq x hx).2.1), fun x hx => Nat.lt_of_lt_of_le (h.s x hx) (Nat.le_trans k2.size k34.size), h.sR, h.s0, h.s1, h.sq⟩, K2.trans k34 (fun x _ e => e ▸ h.sR)⟩
      clear h rq k2 b2 r0 r1 H2 K2 b3 b4 k3 k34 rq2 g2 hk
      go_wp2_with fail
      go_end0
      exact ⟨rfl, _, _, _, FIN.out⟩
end Go.Proofs.YtcmfehabcklbpaaDoor
