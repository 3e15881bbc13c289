/-
  Ours: Sync, Truncate.
-/
import Derived.Test.YtcmfehabcklbpaaDoorDskCalls
namespace Go.Proofs.YtcmfehabcklbpaaDoor
open Go.RowKit

theorem Dk.Ok.put0 {t : Dk} (h : t.Ok) (b : List Nat) (d : Nat) (hd : d ≤ b.length) (hb : b.length ≤ 16777216) : (t.put 0 b d).Ok := ⟨hd, hb, h.d1, h.l1, h.q, h.qe⟩
theorem Dk.Ok.put1 {t : Dk} (h : t.Ok) (b : List Nat) (d : Nat) (hd : d ≤ b.length) (hb : b.length ≤ 16777216) : (t.put 1 b d).Ok := ⟨h.d0, h.l0, hd, hb, h.q, h.qe⟩
theorem DkV.dur0 {R : Nat} {S : Nat → Prop} {t : Dk} {v0 v1 vq : Value} {w : World} (h : DkV R S t v0 v1 vq w) (k : Nat) : DkV R S (t.put 0 t.b0 k) v0 v1 vq (w.setCell ⟨R, 1, none⟩ (.int .i64 (k : Int))) := by
  obtain ⟨x0, x1, x2, x3⟩ := h.store 1 (.int .i64 (k : Int))
  exact ⟨Blk.set (i := 1) h.blk (.int .i64 (k : Int)), x0, x1, x2, x3, h.sR, h.s0, h.s1, h.sq⟩
theorem DkV.dur1 {R : Nat} {S : Nat → Prop} {t : Dk} {v0 v1 vq : Value} {w : World} (h : DkV R S t v0 v1 vq w) (k : Nat) : DkV R S (t.put 1 t.b1 k) v0 v1 vq (w.setCell ⟨R, 3, none⟩ (.int .i64 (k : Int))) := by
  obtain ⟨x0, x1, x2, x3⟩ := h.store 3 (.int .i64 (k : Int))
  exact ⟨Blk.set (i := 3) h.blk (.int .i64 (k : Int)), x0, x1, x2, x3, h.sR, h.s0, h.s1, h.sq⟩


set_option maxRecDepth 20000 in
set_option maxHeartbeats 2000000 in
theorem sync_at (R : Nat) (S : Nat → Prop) (t : Dk) (w : World) (n : Int) (hw : 0 ≤ t.wr ∧ t.wr < 4611686018427387904) (h : DkAt R S t w) :
    Calls Tryd.prog 79 #[.pointer (some ⟨R, 0, none⟩), .int .i64 n] w fun e w' => e = .returned (.int .i64 (t.sync n).2) ∧ DkPost R S w (t.sync n).1 w' := by
  have SM : Hid (DkPost R S w t w) := DkPost.same h
  obtain ⟨ok, v0, v1, vq, h⟩ := h
  have c6 := h.blk.cell 6 _ rfl
  have PK : Hid (∀ w, w.cell? ⟨R, 6, none⟩ = some (.bool t.dn) → Calls Tryd.prog 81 #[.pointer (some ⟨R, 0, none⟩), .int .i64 n] w fun e w' => e = .returned (.tuple #[(pickV R n t.dn).1, .int .i64 (pickV R n t.dn).2]) ∧ w' = w) := fun w h => pick_at R n t.dn w h
  rw [pickV_no] at PK
  have WR : Hid (∀ w, DkV R S t v0 v1 vq w → Calls Tryd.prog 84 #[.pointer (some ⟨R, 0, none⟩)] w fun e w' => e = .returned (.int .i64 t.write.2) ∧ ∃ v0' v1' vq', DkV R S t.write.1 v0' v1' vq' w' ∧ Kp S w w') := fun w h => write_at R S t v0 v1 vq w ok hw h
  have OW := Dk.Ok.write ok
  unfold Dk.sync
  rcases t.no_cases n with hno | hno
  · have e0 : (t.no n != 0) = true := by simpa using hno
    rw [if_neg hno] at PK
    rw [if_pos hno]
    clear h ok WR
    generalize t.no n = e at *
    go_enter Tryd.func79, Tryd.ntmps79
    go_wp2_with fail
    refine (PK.out _ c6).mono ?_
    rintro e w2 ⟨rfl, rfl⟩
    go_wp2_with fail
    go_ret
    exact ⟨rfl, SM.out⟩
  · have hn0 : t.no n = 0 := by unfold Dk.no; rcases hno with ⟨rfl, hd⟩ | ⟨rfl, hd⟩ <;> simp [hd]
    rw [if_neg (by rw [hn0]; simp)]
    rw [if_pos hn0, hn0] at PK
    have en0 : ((0 : Int) != 0) = false := rfl
    clear hn0
    by_cases hwz : t.write.2 = 0
    · rw [if_neg (by rw [hwz]; simp)]
      rw [hwz] at WR
      clear hwz
      have OL0 := OW.l0
      have OL1 := OW.l1
      generalize t.write.1 = t' at *
      rcases hno with ⟨rfl, hdn⟩ | ⟨rfl, hdn⟩
      · rw [show 2 * (0 : Int).toNat = 0 from rfl] at PK
        rw [show t'.fb 0 = t'.b0 from rfl]
        go_enter Tryd.func79, Tryd.ntmps79
        go_wp2_with fail
        refine (PK.out _ c6).mono ?_
        rintro e w2 ⟨rfl, rfl⟩
        go_wp2_with fail
        refine (WR.out _ h).mono ?_
        rintro e w3 ⟨rfl, x0, x1, xq, h3, k3⟩
        obtain ⟨a, c, e, hc⟩ := row_shape h3.r0
        rw [List.length_map] at e hc
        subst e
        have cb := h3.blk.cell 0 _ rfl
        have cd := h3.blk.cell 1 _ rfl
        have fd := h3.blk.fz 1
        have FIN : Hid (DkPost R S _ (t'.put 0 t'.b0 t'.b0.length) (w3.setCell ⟨R, 1, none⟩ (.int .i64 (t'.b0.length : Int)))) := ⟨S, ⟨OW.put0 _ _ (Nat.le_refl _) OL0, _, _, _, h3.dur0 t'.b0.length⟩, fun g hg => .inl hg, k3.trans (setCell_kp w3 R 1 _) (fun g _ e => e ▸ h.sR)⟩
        clear h h3 k3 PK WR
        go_wp2_with fail
        go_ret
        exact ⟨rfl, FIN.out⟩
      · rw [show 2 * (1 : Int).toNat = 2 from rfl] at PK
        rw [show t'.fb 1 = t'.b1 from rfl]
        go_enter Tryd.func79, Tryd.ntmps79
        go_wp2_with fail
        refine (PK.out _ c6).mono ?_
        rintro e w2 ⟨rfl, rfl⟩
        go_wp2_with fail
        refine (WR.out _ h).mono ?_
        rintro e w3 ⟨rfl, x0, x1, xq, h3, k3⟩
        obtain ⟨a, c, e, hc⟩ := row_shape h3.r1
        rw [List.length_map] at e hc
        subst e
        have cb := h3.blk.cell 2 _ rfl
        have cd := h3.blk.cell 3 _ rfl
        have fd := h3.blk.fz 3
        have FIN : Hid (DkPost R S _ (t'.put 1 t'.b1 t'.b1.length) (w3.setCell ⟨R, 3, none⟩ (.int .i64 (t'.b1.length : Int)))) := ⟨S, ⟨OW.put1 _ _ (Nat.le_refl _) OL1, _, _, _, h3.dur1 t'.b1.length⟩, fun g hg => .inl hg, k3.trans (setCell_kp w3 R 3 _) (fun g _ e => e ▸ h.sR)⟩
        clear h h3 k3 PK WR
        go_wp2_with fail
        go_ret
        exact ⟨rfl, FIN.out⟩
    · rw [if_pos hwz]
      have ew : (t.write.2 != 0) = true := by simpa using hwz
      rcases hno with ⟨rfl, hdn⟩ | ⟨rfl, hdn⟩
      · rw [show 2 * (0 : Int).toNat = 0 from rfl] at PK
        go_enter Tryd.func79, Tryd.ntmps79
        go_wp2_with fail
        refine (PK.out _ c6).mono ?_
        rintro e w2 ⟨rfl, rfl⟩
        go_wp2_with fail
        refine (WR.out _ h).mono ?_
        rintro e w3 ⟨rfl, x0, x1, xq, h3, k3⟩
        have FIN : Hid (DkPost R S _ t.write.1 w3) := ⟨S, ⟨OW, x0, x1, xq, h3⟩, fun g hg => .inl hg, k3⟩
        clear h h3 k3 PK WR
        go_wp2_with fail
        go_ret
        exact ⟨rfl, FIN.out⟩
      · rw [show 2 * (1 : Int).toNat = 2 from rfl] at PK
        go_enter Tryd.func79, Tryd.ntmps79
        go_wp2_with fail
        refine (PK.out _ c6).mono ?_
        rintro e w2 ⟨rfl, rfl⟩
        go_wp2_with fail
        refine (WR.out _ h).mono ?_
        rintro e w3 ⟨rfl, x0, x1, xq, h3, k3⟩
        have FIN : Hid (DkPost R S _ t.write.1 w3) := ⟨S, ⟨OW, x0, x1, xq, h3⟩, fun g hg => .inl hg, k3⟩
        clear h h3 k3 PK WR
        go_wp2_with fail
        go_ret
        exact ⟨rfl, FIN.out⟩

set_option maxRecDepth 20000 in
set_option maxHeartbeats 2000000 in
theorem trunc_at (R : Nat) (S : Nat → Prop) (t : Dk) (w : World) (n k : Int) (hw : 0 ≤ t.wr ∧ t.wr < 4611686018427387904) (h : DkAt R S t w) :
    Calls Tryd.prog 80 #[.pointer (some ⟨R, 0, none⟩), .int .i64 n, .int .i64 k] w fun e w' => e = .returned (.int .i64 (t.trunc n k).2) ∧ DkPost R S w (t.trunc n k).1 w' := by
  have SM : Hid (DkPost R S w t w) := DkPost.same h
  obtain ⟨ok, v0, v1, vq, h⟩ := h
  have c6 := h.blk.cell 6 _ rfl
  have PK : Hid (∀ w, w.cell? ⟨R, 6, none⟩ = some (.bool t.dn) → Calls Tryd.prog 81 #[.pointer (some ⟨R, 0, none⟩), .int .i64 n] w fun e w' => e = .returned (.tuple #[(pickV R n t.dn).1, .int .i64 (pickV R n t.dn).2]) ∧ w' = w) := fun w h => pick_at R n t.dn w h
  rw [pickV_no] at PK
  have WR : Hid (∀ w, DkV R S t v0 v1 vq w → Calls Tryd.prog 84 #[.pointer (some ⟨R, 0, none⟩)] w fun e w' => e = .returned (.int .i64 t.write.2) ∧ ∃ v0' v1' vq', DkV R S t.write.1 v0' v1' vq' w' ∧ Kp S w w') := fun w h => write_at R S t v0 v1 vq w ok hw h
  have OW := Dk.Ok.write ok
  unfold Dk.trunc
  rcases t.no_cases n with hno | hno
  · have e0 : (t.no n != 0) = true := by simpa using hno
    rw [if_neg hno] at PK
    rw [if_pos hno]
    clear h ok WR
    generalize t.no n = e at *
    go_enter Tryd.func80, Tryd.ntmps80
    go_wp2_with fail
    refine (PK.out _ c6).mono ?_
    rintro e w2 ⟨rfl, rfl⟩
    go_wp2_with fail
    go_ret
    exact ⟨rfl, SM.out⟩
  · have hn0 : t.no n = 0 := by unfold Dk.no; rcases hno with ⟨rfl, hd⟩ | ⟨rfl, hd⟩ <;> simp [hd]
    rw [if_neg (by rw [hn0]; simp)]
    rw [if_pos hn0, hn0] at PK
    have en0 : ((0 : Int) != 0) = false := rfl
    clear hn0
    rcases hno with ⟨rfl, hdn⟩ | ⟨rfl, hdn⟩
    · rw [show 2 * (0 : Int).toNat = 0 from rfl] at PK
      rw [show t.fb 0 = t.b0 from rfl, show t.write.1.fb 0 = t.write.1.b0 from rfl]
      obtain ⟨a, c, e, hc⟩ := row_shape h.r0
      rw [List.length_map] at e hc
      subst e
      have cb := h.blk.cell 0 _ rfl
      by_cases hb : k < 0 ∨ (t.b0.length : Int) < k
      · rw [if_pos hb]
        clear h ok WR OW
        generalize t.b0.length = L at *
        by_cases hk0 : k < 0
        · have d1 : decide (k < 0) = true := decide_eq_true hk0
          go_enter Tryd.func80, Tryd.ntmps80
          go_wp2_with fail
          refine (PK.out _ c6).mono ?_
          rintro e w2 ⟨rfl, rfl⟩
          go_wp2_with fail
          go_ret
          exact ⟨rfl, SM.out⟩
        · have d1 : decide (k < 0) = false := decide_eq_false hk0
          have d2 : decide ((L : Int) < k) = true := decide_eq_true (by omega)
          go_enter Tryd.func80, Tryd.ntmps80
          go_wp2_with fail
          refine (PK.out _ c6).mono ?_
          rintro e w2 ⟨rfl, rfl⟩
          go_wp2_with fail
          go_ret
          exact ⟨rfl, SM.out⟩
      · rw [if_neg hb]
        obtain ⟨K, rfl⟩ : ∃ K : Nat, k = (K : Int) := ⟨k.toNat, by omega⟩
        rw [show ((K : Int)).toNat = K from rfl]
        have d1 : decide ((K : Int) < 0) = false := decide_eq_false (by omega)
        have d2 : decide ((t.b0.length : Int) < (K : Int)) = false := decide_eq_false (by omega)
        have hKL : K ≤ t.b0.length := by omega
        by_cases hwz : t.write.2 = 0
        · rw [if_neg (by rw [hwz]; simp)]
          have wok := Dk.write_ok hwz
          rw [hwz] at WR
          have e5 : t.write.1.b0.length = t.b0.length := by rw [wok.1]
          clear hwz wok
          have OL := OW.l0
          generalize t.write.1 = t' at *
          have HE : Hid (t'.b0.length = t.b0.length) := e5
          have H0 : Hid (DkV R S t _ _ vq w) := h
          clear e5
          generalize hLL : t.b0.length = L at *
          have hcL : K ≤ c := by omega
          clear hLL
          go_enter Tryd.func80, Tryd.ntmps80
          go_wp2_with fail
          refine (PK.out _ c6).mono ?_
          rintro e w2 ⟨rfl, rfl⟩
          go_wp2_with fail
          refine (WR.out _ h).mono ?_
          rintro e w3 ⟨rfl, x0, x1, xq, h3, k3⟩
          obtain ⟨a3, c3, e3, hc3⟩ := row_shape h3.r0
          rw [List.length_map, HE.out] at e3 hc3
          subst e3
          have CU : Hid (Calls Tryd.prog 85 #[.pointer (some ⟨R, 0, none⟩), .int .i64 (K : Int)] w3 fun e w' => e = .returned (.tuple #[]) ∧ w' = (w3.setCell ⟨R, 0, none⟩ (.slice a3 K c3)).setCell ⟨R, 0 + 1, none⟩ (.int .i64 (K : Int))) := cut_at R 0 L c3 K a3 _ _ w3 rfl (h3.blk.cell 0 _ rfl) (h3.blk.fz 0) (h3.blk.cell 1 _ rfl) (h3.blk.fz 1) (by omega)
          have FIN : Hid (DkPost R S _ (t'.put 0 (t'.b0.take K) K) ((w3.setCell ⟨R, 0, none⟩ (.slice a3 K c3)).setCell ⟨R, 0 + 1, none⟩ (.int .i64 (K : Int)))) := ⟨S, ⟨OW.put0 _ _ (by rw [List.length_take, HE.out]; omega) (by rw [List.length_take]; omega), _, _, _, h3.cut0 hKL⟩, fun g hg => .inl hg, (k3.trans (setCell_kp w3 R 0 _) (fun g _ e => e ▸ h.sR)).trans (setCell_kp _ R 1 _) (fun g _ e => e ▸ h.sR)⟩
          clear h h3 k3 PK WR H0
          go_wp2_with fail
          refine CU.out.mono ?_
          rintro e w4 ⟨rfl, rfl⟩
          go_wp2_with fail
          go_ret
          exact ⟨rfl, FIN.out⟩
        · rw [if_pos hwz]
          have ew : (t.write.2 != 0) = true := by simpa using hwz
          clear hb hwz
          generalize hLL : t.b0.length = L at *
          clear hLL
          go_enter Tryd.func80, Tryd.ntmps80
          go_wp2_with fail
          refine (PK.out _ c6).mono ?_
          rintro e w2 ⟨rfl, rfl⟩
          go_wp2_with fail
          refine (WR.out _ h).mono ?_
          rintro e w3 ⟨rfl, x0, x1, xq, h3, k3⟩
          have FIN : Hid (DkPost R S _ t.write.1 w3) := ⟨S, ⟨OW, x0, x1, xq, h3⟩, fun g hg => .inl hg, k3⟩
          clear h h3 k3 PK WR
          go_wp2_with fail
          go_ret
          exact ⟨rfl, FIN.out⟩
    · rw [show 2 * (1 : Int).toNat = 2 from rfl] at PK
      rw [show t.fb 1 = t.b1 from rfl, show t.write.1.fb 1 = t.write.1.b1 from rfl]
      obtain ⟨a, c, e, hc⟩ := row_shape h.r1
      rw [List.length_map] at e hc
      subst e
      have cb := h.blk.cell 2 _ rfl
      by_cases hb : k < 0 ∨ (t.b1.length : Int) < k
      · rw [if_pos hb]
        clear h ok WR OW
        generalize t.b1.length = L at *
        by_cases hk0 : k < 0
        · have d1 : decide (k < 0) = true := decide_eq_true hk0
          go_enter Tryd.func80, Tryd.ntmps80
          go_wp2_with fail
          refine (PK.out _ c6).mono ?_
          rintro e w2 ⟨rfl, rfl⟩
          go_wp2_with fail
          go_ret
          exact ⟨rfl, SM.out⟩
        · have d1 : decide (k < 0) = false := decide_eq_false hk0
          have d2 : decide ((L : Int) < k) = true := decide_eq_true (by omega)
          go_enter Tryd.func80, Tryd.ntmps80
          go_wp2_with fail
          refine (PK.out _ c6).mono ?_
          rintro e w2 ⟨rfl, rfl⟩
          go_wp2_with fail
          go_ret
          exact ⟨rfl, SM.out⟩
      · rw [if_neg hb]
        obtain ⟨K, rfl⟩ : ∃ K : Nat, k = (K : Int) := ⟨k.toNat, by omega⟩
        rw [show ((K : Int)).toNat = K from rfl]
        have d1 : decide ((K : Int) < 0) = false := decide_eq_false (by omega)
        have d2 : decide ((t.b1.length : Int) < (K : Int)) = false := decide_eq_false (by omega)
        have hKL : K ≤ t.b1.length := by omega
        by_cases hwz : t.write.2 = 0
        · rw [if_neg (by rw [hwz]; simp)]
          have wok := Dk.write_ok hwz
          rw [hwz] at WR
          have e5 : t.write.1.b1.length = t.b1.length := by rw [wok.2.1]
          clear hwz wok
          have OL := OW.l1
          generalize t.write.1 = t' at *
          have HE : Hid (t'.b1.length = t.b1.length) := e5
          have H0 : Hid (DkV R S t _ _ vq w) := h
          clear e5
          generalize hLL : t.b1.length = L at *
          have hcL : K ≤ c := by omega
          clear hLL
          go_enter Tryd.func80, Tryd.ntmps80
          go_wp2_with fail
          refine (PK.out _ c6).mono ?_
          rintro e w2 ⟨rfl, rfl⟩
          go_wp2_with fail
          refine (WR.out _ h).mono ?_
          rintro e w3 ⟨rfl, x0, x1, xq, h3, k3⟩
          obtain ⟨a3, c3, e3, hc3⟩ := row_shape h3.r1
          rw [List.length_map, HE.out] at e3 hc3
          subst e3
          have CU : Hid (Calls Tryd.prog 85 #[.pointer (some ⟨R, 2, none⟩), .int .i64 (K : Int)] w3 fun e w' => e = .returned (.tuple #[]) ∧ w' = (w3.setCell ⟨R, 2, none⟩ (.slice a3 K c3)).setCell ⟨R, 2 + 1, none⟩ (.int .i64 (K : Int))) := cut_at R 2 L c3 K a3 _ _ w3 rfl (h3.blk.cell 2 _ rfl) (h3.blk.fz 2) (h3.blk.cell 3 _ rfl) (h3.blk.fz 3) (by omega)
          have FIN : Hid (DkPost R S _ (t'.put 1 (t'.b1.take K) K) ((w3.setCell ⟨R, 2, none⟩ (.slice a3 K c3)).setCell ⟨R, 2 + 1, none⟩ (.int .i64 (K : Int)))) := ⟨S, ⟨OW.put1 _ _ (by rw [List.length_take, HE.out]; omega) (by rw [List.length_take]; omega), _, _, _, h3.cut1 hKL⟩, fun g hg => .inl hg, (k3.trans (setCell_kp w3 R 2 _) (fun g _ e => e ▸ h.sR)).trans (setCell_kp _ R 3 _) (fun g _ e => e ▸ h.sR)⟩
          clear h h3 k3 PK WR H0
          go_wp2_with fail
          refine CU.out.mono ?_
          rintro e w4 ⟨rfl, rfl⟩
          go_wp2_with fail
          go_ret
          exact ⟨rfl, FIN.out⟩
        · rw [if_pos hwz]
          have ew : (t.write.2 != 0) = true := by simpa using hwz
          clear hb hwz
          generalize hLL : t.b1.length = L at *
          clear hLL
          go_enter Tryd.func80, Tryd.ntmps80
          go_wp2_with fail
          refine (PK.out _ c6).mono ?_
          rintro e w2 ⟨rfl, rfl⟩
          go_wp2_with fail
          refine (WR.out _ h).mono ?_
          rintro e w3 ⟨rfl, x0, x1, xq, h3, k3⟩
          have FIN : Hid (DkPost R S _ t.write.1 w3) := ⟨S, ⟨OW, x0, x1, xq, h3⟩, fun g hg => .inl hg, k3⟩
          clear h h3 k3 PK WR
          go_wp2_with fail
          go_ret
          exact ⟨rfl, FIN.out⟩
end Go.Proofs.YtcmfehabcklbpaaDoor
