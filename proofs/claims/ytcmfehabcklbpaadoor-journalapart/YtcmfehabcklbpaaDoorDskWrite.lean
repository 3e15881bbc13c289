/-
  Ours: write: a write is counted, and the first crash may come to pass.
-/
import Derived.Test.YtcmfehabcklbpaaDoorDskDown
namespace Go.Proofs.YtcmfehabcklbpaaDoor
open Go.RowKit

def Dk.tick (t : Dk) (c : Int × Int) (q : List (Int × Int)) : Dk := { t with wr := t.wr + 1, q := (c.1 - 1, c.2) :: q }
/-- The disk behind a write, and its answer. -/
def Dk.write (t : Dk) : Dk × Int := match t.q with
  | [] => ({ t with wr := t.wr + 1 }, 0)
  | c :: q => if 0 < c.1 - 1 then (t.tick c q, 0) else ((t.tick c q).down c.2.toNat, 51)
theorem Dk.write_nil {t : Dk} (hq : t.q = []) : t.write = ({ t with wr := t.wr + 1 }, 0) := by
  unfold Dk.write
  split
  · rfl
  · rename_i h; rw [hq] at h; cases h
theorem Dk.write_cons {t : Dk} {c : Int × Int} {q : List (Int × Int)} (hq : t.q = c :: q) : t.write = if 0 < c.1 - 1 then (t.tick c q, 0) else ((t.tick c q).down c.2.toNat, 51) := by
  unfold Dk.write
  split
  · rename_i h; rw [hq] at h; cases h
  · rename_i c' q' h; rw [hq] at h; cases h; rfl
theorem Dk.Ok.down {t : Dk} (h : t.Ok) (keep : Nat) : (t.down keep).Ok := by
  have h0 := left_le (keep := keep) h.d0
  have h1 := left_le (keep := keep) h.d1
  have l0 := h.l0
  have l1 := h.l1
  refine ⟨?_, ?_, ?_, ?_, ?_, fun c hc => h.qe c (List.mem_of_mem_tail hc)⟩
  · show left t.b0 t.d0 keep ≤ (t.b0.take (left t.b0 t.d0 keep)).length; rw [List.length_take]; omega
  · show (t.b0.take _).length ≤ _; rw [List.length_take]; omega
  · show left t.b1 t.d1 keep ≤ (t.b1.take (left t.b1 t.d1 keep)).length; rw [List.length_take]; omega
  · show (t.b1.take _).length ≤ _; rw [List.length_take]; omega
  · show t.q.tail.length ≤ 64; rw [List.length_tail]; have := h.q; omega
theorem Dk.Ok.tick {t : Dk} (h : t.Ok) {c : Int × Int} {q : List (Int × Int)} (hq : t.q = c :: q) (hc : 0 < c.1 - 1) : (t.tick c q).Ok := by
  have he := h.qe
  rw [hq] at he
  have hl := h.q
  rw [hq] at hl
  refine ⟨h.d0, h.l0, h.d1, h.l1, by simpa [Dk.tick] using hl, fun x hx => ?_⟩
  rcases List.mem_cons.1 hx with rfl | hx
  · have := he c (by simp); exact ⟨by show 1 ≤ c.1 - 1; omega, by show c.1 - 1 ≤ _; omega, this.2.2⟩
  · exact he x (by simp [hx])
theorem Dk.Ok.write {t : Dk} (h : t.Ok) : t.write.1.Ok := by
  cases hq : t.q with
  | nil => rw [Dk.write_nil hq]; exact ⟨h.d0, h.l0, h.d1, h.l1, h.q, h.qe⟩
  | cons c q =>
    rw [Dk.write_cons hq]
    split
    · rename_i hc; exact h.tick hq hc
    · -- the crash is gone behind it
      have h2 : ({ t with wr := t.wr + 1 } : Dk).Ok := ⟨h.d0, h.l0, h.d1, h.l1, h.q, h.qe⟩
      have h3 := h2.down c.2.toNat
      have e : (t.tick c q).down c.2.toNat = ({ t with wr := t.wr + 1 } : Dk).down c.2.toNat := by
        unfold Dk.down Dk.lose1 Dk.lose0 Dk.tick
        simp only [hq, List.tail_cons]
      rw [e]; exact h3

set_option maxRecDepth 20000 in
set_option maxHeartbeats 2000000 in
theorem write_at (R : Nat) (S : Nat → Prop) (t : Dk) (v0 v1 vq : Value) (w : World) (ok : t.Ok) (hw : 0 ≤ t.wr ∧ t.wr < 4611686018427387904) (h : DkV R S t v0 v1 vq w) :
    Calls Tryd.prog 84 #[.pointer (some ⟨R, 0, none⟩)] w fun e w' => e = .returned (.int .i64 t.write.2) ∧ ∃ v0' v1' vq', DkV R S t.write.1 v0' v1' vq' w' ∧ Kp S w w' := by
  have h5 := h.blk.cell 5 _ rfl
  have f5 := h.blk.fz 5
  have h4 := h.blk.cell 4 _ rfl
  obtain ⟨x0, x1, x2, x3⟩ := h.store 5 (.int .i64 (t.wr + 1))
  have b1 : Blk R 67 _ _ := Blk.set (i := 5) h.blk (.int .i64 (t.wr + 1))
  have k1 := setCell_kp w R 5 (.int .i64 (t.wr + 1))
  have hD : DkV R S { t with wr := t.wr + 1 } v0 v1 vq (w.setCell ⟨R, 5, none⟩ (.int .i64 (t.wr + 1))) := ⟨b1, x0, x1, x2, x3, h.sR, h.s0, h.s1, h.sq⟩
  have K1 : Kp S w (w.setCell ⟨R, 5, none⟩ (.int .i64 (t.wr + 1))) := k1.mono (fun g _ e => e ▸ h.sR)
  have e1 : IntKind.i64.wrap (t.wr + 1) = t.wr + 1 := by rw [IntKind.wrap_i64]; omega
  clear x0 x1 x2 x3 b1 k1
  cases hq : t.q with
  | nil =>
    rw [Dk.write_nil hq]
    obtain ⟨aq, cq, rfl⟩ : ∃ a c, vq = .slice a 0 c := by
      have := h.rq
      rw [hq] at this
      rcases this.2 with ⟨e, _⟩ | ⟨g, cap, cur, e, _⟩
      · exact ⟨_, _, e⟩
      · exact ⟨_, _, e⟩
    have e2 : (((0 : Nat) : Int) == 0) = true := rfl
    have FIN : Hid (DkV R S { t with wr := t.wr + 1 } v0 v1 (.slice aq 0 cq) (w.setCell ⟨R, 5, none⟩ (.int .i64 (t.wr + 1))) ∧ Kp S w (w.setCell ⟨R, 5, none⟩ (.int .i64 (t.wr + 1)))) := ⟨hD, K1⟩
    clear h hD K1 ok
    go_enter Tryd.func84, Tryd.ntmps84
    go_wp2_with fail
    go_ret
    exact ⟨rfl, _, _, _, FIN.out⟩
  | cons c q =>
    rw [Dk.write_cons hq]
    obtain ⟨ca, ck⟩ := c
    have hce := ok.qe (ca, ck) (by rw [hq]; simp)
    simp only at hce ⊢
    obtain ⟨kp, rfl⟩ : ∃ kp : Nat, ck = (kp : Int) := ⟨ck.toNat, by omega⟩
    obtain ⟨g, cq, rfl, hgq⟩ : ∃ g c, vq = .slice (some ⟨g, 0, none⟩) (q.length + 1) c ∧ g ≠ R := by
      have := h.rq
      rw [hq] at this
      rcases this.2 with ⟨_, e⟩ | ⟨g, cap, cur, e, _⟩
      · simp at e
      · exact ⟨g, cap, by simpa using e, (h.sq g (by rw [e]; rfl)).2.1⟩
    -- the first crash's number
    have rq := hD.rq
    have rq' : (w.setCell ⟨R, 5, none⟩ (.int .i64 (t.wr + 1))).ownsRow 0 82 2 (.slice (some ⟨g, 0, none⟩) (q.length + 1) cq) (q.length + 1) (qv ((ca, (kp : Int)) :: q)) := by
      have : ({ t with wr := t.wr + 1 } : Dk).q = (ca, (kp : Int)) :: q := hq
      unfold RowQ at rq
      rw [this] at rq
      simpa using rq
    have cg0 := World.ownsRow.cells rq' rfl 0 (.int .i64 ca) (by simp [qv])
    have cg1 := World.ownsRow.cells rq' rfl 1 (.int .i64 (kp : Int)) (by simp [qv])
    rw [Addr.add_lit] at cg0 cg1
    simp only [Nat.zero_add] at cg0 cg1
    obtain ⟨r2, g2⟩ := World.ownsRow.stored rq' 0 (.int .i64 (ca - 1))
    have fg0 : (w.setCell ⟨R, 5, none⟩ (.int .i64 (t.wr + 1))).frozen? ⟨g, 0, none⟩ = false := by
      rcases rq'.2 with ⟨e, _⟩ | ⟨g', cap, cur, e, _, hg, _⟩
      · cases e
      · injection e with e1 e2 e3
        injection e1 with e1
        injection e1 with e1
        subst e1
        simp [World.frozen?, hg]
    have k2 := Kp.of_grown g2
    have sg := hD.sq g rfl
    have hT : DkV R S (t.tick (ca, (kp : Int)) q) v0 v1 (.slice (some ⟨g, 0, none⟩) (q.length + 1) cq) ((w.setCell ⟨R, 5, none⟩ (.int .i64 (t.wr + 1))).setCell ⟨g, 0, none⟩ (.int .i64 (ca - 1))) :=
      ⟨hD.blk.kp k2 (fun e => sg.2.1 (by injection e)), hD.r0.kp k2 (fun x hx e => sg.2.2.1 (by injection e with e; rw [e]; exact hx)), hD.r1.kp k2 (fun x hx e => sg.2.2.2 (by injection e with e; rw [e]; exact hx)), by
        show World.ownsRow _ _ _ _ _ (q.length + 1) (qv ((ca - 1, (kp : Int)) :: q))
        have e : (qv ((ca, (kp : Int)) :: q)).set 0 (.int .i64 (ca - 1)) = qv ((ca - 1, (kp : Int)) :: q) := rfl
        rw [e] at r2; exact r2, fun x hx => Nat.lt_of_lt_of_le (hD.s x hx) k2.size, hD.sR, hD.s0, hD.s1, hD.sq⟩
    have K2 := K1.trans k2 (fun x _ e => by injection e with e; rw [← e]; exact sg.1)
    have e3 : IntKind.i64.wrap (ca - 1) = ca - 1 := by rw [IntKind.wrap_i64]; omega
    obtain ⟨N, hN⟩ : ∃ N, q.length + 1 = N := ⟨_, rfl⟩
    rw [hN] at hT h4
    have eN : (((N : Nat) : Int) == 0) = false := by rw [← hN]; simp; omega
    have hN0 : 0 < N := by omega
    have HN : Hid (q.length + 1 = N) := hN
    have hcg1 := World.ownsRow.cells r2 rfl 0 (.int .i64 (ca - 1)) (by simp [qv])
    have hcg2 := World.ownsRow.cells r2 rfl 1 (.int .i64 (kp : Int)) (by simp [qv])
    rw [Addr.add_lit] at hcg1 hcg2
    simp only [Nat.zero_add] at hcg1 hcg2
    have c4 := hD.blk.cell 4 _ rfl
    rw [hN] at c4
    have GD : Hid (∀ w', DkV R S (t.tick (ca, (kp : Int)) q) v0 v1 (.slice (some ⟨g, 0, none⟩) N cq) w' → ¬ 0 < ca - 1 → Calls Tryd.prog 86 #[.pointer (some ⟨R, 0, none⟩), .int .i64 (kp : Int)] w' fun e w'' => e = .returned (.tuple #[]) ∧ ∃ v0' v1' vq', DkV R S ((t.tick (ca, (kp : Int)) q).down kp) v0' v1' vq' w'' ∧ Kp S w' w'') := fun w' h _ => goDown_at R S (t.tick (ca, (kp : Int)) q) v0 v1 _ w' kp (by omega) (ca - 1, (kp : Int)) q rfl ok.d0 ok.l0 ok.d1 ok.l1 (by show (_ :: q).length ≤ 64; have := ok.q; rw [hq] at this; simpa using this) h
    clear h hD K1 rq rq' r2 g2 k2 ok hN
    by_cases hlt : 0 < ca - 1
    · have d1 : decide (0 < ca - 1) = true := decide_eq_true hlt
      rw [if_pos hlt]
      have FIN : Hid (DkV R S (t.tick (ca, (kp : Int)) q) v0 v1 (.slice (some ⟨g, 0, none⟩) N cq) ((w.setCell ⟨R, 5, none⟩ (.int .i64 (t.wr + 1))).setCell ⟨g, 0, none⟩ (.int .i64 (ca - 1))) ∧ Kp S w ((w.setCell ⟨R, 5, none⟩ (.int .i64 (t.wr + 1))).setCell ⟨g, 0, none⟩ (.int .i64 (ca - 1)))) := ⟨hT, K2⟩
      clear hT K2 GD
      go_enter Tryd.func84, Tryd.ntmps84
      go_upto_region 2 with fail
      generalize w.setCell ⟨R, 5, none⟩ (.int .i64 (t.wr + 1)) = W1 at *
      go_upto_region 6 with fail
      generalize W1.setCell ⟨g, 0, none⟩ (.int .i64 (ca - 1)) = W2 at *
      go_wp2_with fail
      go_ret
      exact ⟨rfl, _, _, _, FIN.out⟩
    · have d1 : decide (0 < ca - 1) = false := decide_eq_false hlt
      rw [if_neg hlt]
      have G2 := GD.out _ hT hlt
      have G2 : Hid (Calls _ _ _ _ _) := G2
      have K2 : Hid (Kp _ _ _) := K2
      clear hT GD
      go_enter Tryd.func84, Tryd.ntmps84
      go_upto_region 2 with fail
      generalize w.setCell ⟨R, 5, none⟩ (.int .i64 (t.wr + 1)) = W1 at *
      go_upto_region 6 with fail
      generalize W1.setCell ⟨g, 0, none⟩ (.int .i64 (ca - 1)) = W2 at *
      go_wp2_with fail
      refine G2.out.mono ?_
      rintro e w3 ⟨rfl, x0, x1, xq, h3, k3⟩
      have FIN : Hid (DkV R S ((t.tick (ca, (kp : Int)) q).down kp) x0 x1 xq w3 ∧ Kp S w w3) := ⟨h3, K2.out.trans k3 (fun _ _ h => h)⟩
      clear h3 k3 G2 K2
      go_wp2_with fail
      go_ret
      exact ⟨rfl, _, _, _, FIN.out⟩
end Go.Proofs.YtcmfehabcklbpaaDoor
