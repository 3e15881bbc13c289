/-
  Ours: the walk of InterestFresh, some of its cases.
-/
import Derived.Test.YtkabfdajpilomabDoorIntFr2
namespace Go.Proofs.YtkabfdajpilomabDoor
open Go.RowKit IntM CalM

set_option maxRecDepth 100000 in
set_option maxHeartbeats 20000000 in
theorem fresh_s0 (kind P r n start rule kind' P' r' n' start' rule' : Int) (N M : Nat) (rs rs' : List R3) (ok ok' : Bool) (N1 : N ≤ 120) (M1 : M ≤ 120) (hN : rs.length = N) (hM : rs'.length = M)
    (PL : Hid (∀ (w : World), TabA w → TabL w → Calls Tryd.prog 6 #[termsV kind P r n start rule, .slice none 0 0] w fun e w' => ∃ s q, e = .returned (.tuple #[.slice s N q, .bool ok]) ∧ RowI w.heap.size w' (.slice s N q) rs ∧ Up w w'))
    (PU : Hid (∀ (w : World), TabA w → TabL w → Calls Tryd.prog 6 #[termsV kind' P' r' n' start' rule', .slice none 0 0] w fun e w' => ∃ s q, e = .returned (.tuple #[.slice s M q, .bool ok']) ∧ RowI w.heap.size w' (.slice s M q) rs' ∧ Up w w'))
    (MZ : ok' = false → M = 0)
    (EA : Hid (∀ w, Calls Tryd.prog 7 #[.int .i64 P, .int .i64 r, .int .i64 n] w fun e w' => e = .returned (.bool true) ∧ w' = w))
    (k0 : 0 ≤ kind) (k1 : kind ≤ 2) (s0 : ¬ 1 ≤ start) (w : World) (hA : TabA w) (hL : TabL w) :
    Calls Tryd.prog 3 #[termsV kind P r n start rule, termsV kind' P' r' n' start' rule'] w fun e w' => e = .returned (.bool true) ∧ Up w w' := by
  obtain ⟨i0, hi, hz0, hz1, hz2⟩ := info_parts infoInst
  have AL : Hid (∀ (s s' : Option Addr) (c c' : Nat) (w : World), InstOk w s rs → InstOk w s' rs → Calls Tryd.prog 8 #[.slice s N c, .slice s' N c'] w fun e w' => e = .returned (.bool true) ∧ ∃ n, w' = w.drewN n) := fun s s' c c' w h h' => by
    have := alike_at s s' c c' rs w h h'
    rw [hN] at this; exact this
  have AL' : Hid (∀ (s s' : Option Addr) (c c' : Nat) (w : World), InstOk w s rs' → InstOk w s' rs' → Calls Tryd.prog 8 #[.slice s M c, .slice s' M c'] w fun e w' => e = .returned (.bool true) ∧ ∃ n, w' = w.drewN n) := fun s s' c c' w h h' => by
    have := alike_at s s' c c' rs' w h h'
    rw [hM] at this; exact this
  have HA : Hid (TabA w) := hA
  have HT : Hid (TabL w) := hL
  have NI : (N : Int) ≤ 120 := by omega
  have MI : (M : Int) ≤ 120 := by omega
  have HMZ : Hid (ok' = false → M = 0) := MZ
  clear hA hL MZ
  unfold termsV at *
  go_enter Tryd.func3, Tryd.ntmps3
  go_wp2_with fail
  have U0 : Up w ((w.alloc (.cells #[.int .i64 kind, .int .i64 P, .int .i64 r, .int .i64 n, .int .i64 start, .int .i64 rule] 23)).alloc (.cells #[.int .i64 kind', .int .i64 P', .int .i64 r', .int .i64 n', .int .i64 start', .int .i64 rule'] 23)) := ((Up.refl w).alloc _).alloc _
  have U01 : Up (w.alloc (.cells #[.int .i64 kind, .int .i64 P, .int .i64 r, .int .i64 n, .int .i64 start, .int .i64 rule] 23)) ((w.alloc (.cells #[.int .i64 kind, .int .i64 P, .int .i64 r, .int .i64 n, .int .i64 start, .int .i64 rule] 23)).alloc (.cells #[.int .i64 kind', .int .i64 P', .int .i64 r', .int .i64 n', .int .i64 start', .int .i64 rule'] 23)) := (Up.refl _).alloc _
  have TA : Hid (TermsAt kind P r n start rule w.heap.size ((w.alloc (.cells #[.int .i64 kind, .int .i64 P, .int .i64 r, .int .i64 n, .int .i64 start, .int .i64 rule] 23)).alloc (.cells #[.int .i64 kind', .int .i64 P', .int .i64 r', .int .i64 n', .int .i64 start', .int .i64 rule'] 23))) := ⟨cell_in U01 0 _ rfl, cell_in U01 1 _ rfl, cell_in U01 2 _ rfl, cell_in U01 3 _ rfl, cell_in U01 4 _ rfl, cell_in U01 5 _ rfl⟩
  have TB : Hid (TermsAt kind' P' r' n' start' rule' (w.heap.size + 1) ((w.alloc (.cells #[.int .i64 kind, .int .i64 P, .int .i64 r, .int .i64 n, .int .i64 start, .int .i64 rule] 23)).alloc (.cells #[.int .i64 kind', .int .i64 P', .int .i64 r', .int .i64 n', .int .i64 start', .int .i64 rule'] 23))) := ⟨cell_new _ _ _ 0 _ _ rfl (by simp), cell_new _ _ _ 1 _ _ rfl (by simp), cell_new _ _ _ 2 _ _ rfl (by simp), cell_new _ _ _ 3 _ _ rfl (by simp), cell_new _ _ _ 4 _ _ rfl (by simp), cell_new _ _ _ 5 _ _ rfl (by simp)⟩
  have UW : Hid (Up w ((w.alloc (.cells #[.int .i64 kind, .int .i64 P, .int .i64 r, .int .i64 n, .int .i64 start, .int .i64 rule] 23)).alloc (.cells #[.int .i64 kind', .int .i64 P', .int .i64 r', .int .i64 n', .int .i64 start', .int .i64 rule'] 23))) := U0
  have SZ : Hid (((w.alloc (.cells #[.int .i64 kind, .int .i64 P, .int .i64 r, .int .i64 n, .int .i64 start, .int .i64 rule] 23)).alloc (.cells #[.int .i64 kind', .int .i64 P', .int .i64 r', .int .i64 n', .int .i64 start', .int .i64 rule'] 23)).heap.size = w.heap.size + 2) := by show _ = _; simp
  clear U0 U01
  generalize ((w.alloc (.cells #[.int .i64 kind, .int .i64 P, .int .i64 r, .int .i64 n, .int .i64 start, .int .i64 rule] 23)).alloc (.cells #[.int .i64 kind', .int .i64 P', .int .i64 r', .int .i64 n', .int .i64 start', .int .i64 rule'] 23)) = W at *
  generalize hbb : w.heap.size = bb at *
  have HB : Hid (w.heap.size = bb) := hbb
  clear hbb
  obtain ⟨c0, c1, c2, c3, c4, c5⟩ := TA.out
  obtain ⟨e0, e1, e2, e3, e4, e5⟩ := TB.out
  refine (PL.out _ (HA.out.up UW.out) (HT.out.up UW.out)).mono ?_
  rintro e w3 ⟨sa, qa, rfl, RA, U3⟩
  have TA3 : Hid (TermsAt kind P r n start rule bb w3) := TA.out.up U3
  have TB3 : Hid (TermsAt kind' P' r' n' start' rule' (bb + 1) w3) := TB.out.up U3
  have UW3 : Hid (Up w w3) := UW.out.trans U3
  have RA3 : Hid (RowI W.heap.size w3 (.slice sa N qa) rs) := RA
  have SZ3 : Hid (W.heap.size ≤ w3.heap.size) := Below.size U3
  clear c0 c1 c2 c3 c4 c5 e0 e1 e2 e3 e4 e5 TA TB UW RA U3
  obtain ⟨c0, c1, c2, c3, c4, c5⟩ := TA3.out
  obtain ⟨e0, e1, e2, e3, e4, e5⟩ := TB3.out
  go_wp2_with fail
  refine (PU.out _ (HA.out.up UW3.out) (HT.out.up UW3.out)).mono ?_
  rintro e w4 ⟨sb, qb, rfl, RB, U4⟩
  have TA4 : Hid (TermsAt kind P r n start rule bb w4) := TA3.out.up U4
  have UW4 : Hid (Up w w4) := UW3.out.trans U4
  have RA4 : Hid (RowI W.heap.size w4 (.slice sa N qa) rs) := RA3.out.later U4
  have RB4 : Hid (RowI w3.heap.size w4 (.slice sb M qb) rs') := RB
  have SZ4 : Hid (w3.heap.size ≤ w4.heap.size) := Below.size U4
  have NAB := blk_ne RA3.out (Nat.le_refl _) RB
  have HAB : Hid ((Value.slice sa N qa).ownBlock = none ∨ (Value.slice sa N qa).ownBlock ≠ (Value.slice sb M qb).ownBlock) := NAB.1
  have HBA : Hid ((Value.slice sb M qb).ownBlock = none ∨ (Value.slice sb M qb).ownBlock ≠ (Value.slice sa N qa).ownBlock) := NAB.2
  clear c0 c1 c2 c3 c4 c5 e0 e1 e2 e3 e4 e5 TA3 TB3 UW3 RA3 RB U4 NAB PU
  obtain ⟨c0, c1, c2, c3, c4, c5⟩ := TA4.out
  go_wp2_with fail
  refine (PL.out _ (HA.out.up UW4.out) (HT.out.up UW4.out)).mono ?_
  rintro e w5 ⟨sc, qc, rfl, RC, U5⟩
  have TA5 : Hid (TermsAt kind P r n start rule bb w5) := TA4.out.up U5
  have UW5 : Hid (Up w w5) := UW4.out.trans U5
  have RA5 : Hid (RowI W.heap.size w5 (.slice sa N qa) rs) := RA4.out.later U5
  have RB5 : Hid (RowI w3.heap.size w5 (.slice sb M qb) rs') := RB4.out.later U5
  have RC5 : Hid (RowI w4.heap.size w5 (.slice sc N qc) rs) := RC
  have SZ5 : Hid (w4.heap.size ≤ w5.heap.size) := Below.size U5
  have NAC := blk_ne RA4.out (Nat.le_refl _) RC
  have NBC := blk_ne RB4.out (Nat.le_refl _) RC
  have HAC : Hid ((Value.slice sa N qa).ownBlock = none ∨ (Value.slice sa N qa).ownBlock ≠ (Value.slice sc N qc).ownBlock) := NAC.1
  have HCA : Hid ((Value.slice sc N qc).ownBlock = none ∨ (Value.slice sc N qc).ownBlock ≠ (Value.slice sa N qa).ownBlock) := NAC.2
  have HBC : Hid ((Value.slice sb M qb).ownBlock = none ∨ (Value.slice sb M qb).ownBlock ≠ (Value.slice sc N qc).ownBlock) := NBC.1
  have HCB : Hid ((Value.slice sc N qc).ownBlock = none ∨ (Value.slice sc N qc).ownBlock ≠ (Value.slice sb M qb).ownBlock) := NBC.2
  clear c0 c1 c2 c3 c4 c5 TA4 UW4 RA4 RB4 RC U5 NAC NBC
  obtain ⟨c0, c1, c2, c3, c4, c5⟩ := TA5.out
  have IA5 : Hid (InstOk w5 sa rs) := by
    obtain ⟨s, q, hv, I⟩ := RowI.form2 RA5.out
    simp only [Value.slice.injEq] at hv
    obtain ⟨rfl, _, _⟩ := hv
    exact I
  have IC5 : Hid (InstOk w5 sc rs) := by
    obtain ⟨s, q, hv, I⟩ := RowI.form2 RC5.out
    simp only [Value.slice.injEq] at hv
    obtain ⟨rfl, _, _⟩ := hv
    exact I
  go_wp2_with fail
  refine (EA.out _).mono ?_
  rintro e w6 ⟨rfl, hw⟩; rw [hw]; clear hw w6
  go_wp2_with fail
  refine (AL.out _ _ _ _ _ IA5.out IC5.out).mono ?_
  rintro e w6 ⟨rfl, m6, hw⟩; rw [hw]; clear hw w6
  have TA6 : Hid (TermsAt kind P r n start rule bb (w5.drewN m6)) := TA5.out.up (up_drewN (Up.refl _) m6)
  have UW6 : Hid (Up w (w5.drewN m6)) := up_drewN UW5.out m6
  have RA6 : Hid (RowI W.heap.size (w5.drewN m6) (.slice sa N qa) rs) := RA5.out
  have RB6 : Hid (RowI w3.heap.size (w5.drewN m6) (.slice sb M qb) rs') := RB5.out
  have RC6 : Hid (RowI w4.heap.size (w5.drewN m6) (.slice sc N qc) rs) := RC5.out
  have SZ6 : Hid (w4.heap.size ≤ (w5.drewN m6).heap.size) := SZ5.out
  clear c0 c1 c2 c3 c4 c5 TA5 UW5 RA5 RB5 RC5 SZ5 IA5 IC5
  generalize w5.drewN m6 = w6 at *
  have hcA : RowC W.heap.size w6 (.slice sa N qa) N (rs.flatMap instC) := by have := RA6.out; unfold RowI at this; rw [hN] at this; exact this
  have HMB : ok' = true ∨ (ok' = false ∧ ((M : Int) != 0) = false) := by
    cases ok' with
    | true => exact .inl rfl
    | false => exact .inr ⟨rfl, by rw [HMZ.out rfl]; rfl⟩
  clear HMZ
  rcases HMB with rfl | ⟨rfl, hM0⟩
  all_goals
    go_wp2_with (first | (at_builtin; refine wpList_keep rfl (.tmp 99) (.tmp 100) 24 rfl i0 Tryd.underlying24 hi _ hz0 rfl hz1 hz2 W.heap.size N _ _ rfl rfl hcA N1 (one_flat _) ?_; intro v7 w7 hk7 hb7; have hcB : RowC w3.heap.size w7 (.slice sb M qb) M (rs'.flatMap instC) := (by have := RB6.out.later hb7; unfold RowI at this; rw [hM] at this; exact this)) | (at_builtin; refine wpList_keep rfl (.tmp 102) (.tmp 103) 24 rfl i0 Tryd.underlying24 hi _ hz0 rfl hz1 hz2 w3.heap.size M _ _ rfl rfl hcB M1 (one_flat _) ?_; intro v8 w8 hk8 hb8))
    have U8 : Up w6 w8 := Up.trans hb7 hb8
    have S67 : w6.heap.size ≤ w7.heap.size := Below.size hb7
    have z1 := SZ.out
    have z2 := SZ3.out
    have z3 := SZ4.out
    have z4 := SZ6.out
    have z5 := HB.out
    have cA : RowC W.heap.size w6 (.slice sa N qa) N (rs.flatMap instC) := hcA
    have cB : RowC w3.heap.size w6 (.slice sb M qb) M (rs'.flatMap instC) := by have := RB6.out; unfold RowI at this; rw [hM] at this; exact this
    have cC : RowC w4.heap.size w6 (.slice sc N qc) N (rs.flatMap instC) := by have := RC6.out; unfold RowI at this; rw [hN] at this; exact this
    obtain ⟨s7, q7, h7⟩ := RowC.slice hk7
    obtain ⟨s8, q8, h8⟩ := RowC.slice hk8
    subst h7 h8
    have D : Hid (FrD (.slice sa N qa) (.slice sb M qb) (.slice sc N qc) (.slice s7 N q7) (.slice s8 M q8)) := ⟨HAB.out, HAC.out, HBA.out, HBC.out, HCA.out, HCB.out, (blk_ne cA (Nat.le_refl _) hk7).2, (blk_ne cB (Nat.le_refl _) hk7).2, (blk_ne cC (Nat.le_refl _) hk7).2, (blk_ne cA S67 hk8).2, (blk_ne cB S67 hk8).2, (blk_ne cC S67 hk8).2⟩
    have S : Hid (FrS kind P r n start rule bb w N M (rs.flatMap instC) (rs'.flatMap instC) W.heap.size (.slice sa N qa) (.slice sb M qb) (.slice sc N qc) (.slice s7 N q7) (.slice s8 M q8) (rs.flatMap instC) (rs.flatMap instC) w8) := ⟨UW6.out.trans U8, by omega, (by have := Below.size U8; omega), by omega, TA6.out.up U8, cA.up U8, (cB.up U8).low z2, (cC.up U8).low (by omega), (RowC.up hk7 hb8).low (by omega), hk8.low (by omega)⟩
    clear z1 z2 z3 z4 cA cB cC U8 hb7 hb8 hk7 hk8 S67 TA6 UW6 RA6 RB6 RC6 SZ6 SZ SZ3 SZ4 hcA hcB HAB HAC HBA HBC HCA HCB
    have GO : Hid (∀ (k : Nat) (s : Option Addr) (q : Nat) (us : List Value) (d : Int) (w : World), RowC W.heap.size w (.slice s k q) k us → k ≤ 120 → W.heap.size ≤ w.heap.size → Calls Tryd.prog 9 #[.slice s k q, .int .i64 d] w fun e w' => e = .returned (.bool true) ∧ RowC W.heap.size w' (.slice s k q) k us ∧ w.grownBy w' (Value.slice s k q).ownBlock) := fun k s q us d w h hk hb => goneOn_at W.heap.size k s q us d w h hk hb
    go_loopw [13] (fun vi wr => ∃ (k : Nat) (vs : List Value), k ≤ N ∧ vi = .int .i64 (k : Int) ∧ RowC W.heap.size wr (.slice sa N qa) N vs ∧ Hid (∀ i, i < k → vs[i * 4]? = some (.int .i64 (-1))) ∧ Hid (w8.grownBy wr (Value.slice sa N qa).ownBlock)) (fun vi _ => N - (intOf vi).toNat)
    case atStart => exact ⟨0, _, by omega, rfl, S.out.ra, fun i hi => by omega, grownBy_refl _ _⟩
    case round =>
      obtain ⟨k, vs, hk, rfl, hrow, hmk, hgr⟩ := hrel
      by_cases hlt : (k : Int) < (N : Int)
      · obtain ⟨gx, hsx⟩ : ∃ gx, sa = some ⟨gx, 0, none⟩ := by
          rcases hrow.2 with ⟨h1, h2⟩ | ⟨gx, _, _, h1, _⟩
          · omega
          · simp only [Value.slice.injEq] at h1; exact ⟨gx, h1.1⟩
        subst hsx
        have hl := hrow.1
        have f0 := World.ownsRow.frozenAt hrow (k * 4)
        have f1 := World.ownsRow.frozenAt hrow (k * 4 + 1)
        have f2 := World.ownsRow.frozenAt hrow (k * 4 + 2)
        have f3 := World.ownsRow.frozenAt hrow (k * 4 + 3)
        obtain ⟨x0, hx0⟩ : ∃ x, vs[k * 4]? = some x := ⟨_, List.getElem?_eq_getElem (by omega)⟩
        have d0 := (World.ownsRow.cellAt hrow (k * 4) (by omega)).trans hx0
        obtain ⟨x1, hx1⟩ : ∃ x, vs[k * 4 + 1]? = some x := ⟨_, List.getElem?_eq_getElem (by omega)⟩
        have d1 := (World.ownsRow.cellAt hrow (k * 4 + 1) (by omega)).trans hx1
        obtain ⟨x2, hx2⟩ : ∃ x, vs[k * 4 + 2]? = some x := ⟨_, List.getElem?_eq_getElem (by omega)⟩
        have d2 := (World.ownsRow.cellAt hrow (k * 4 + 2) (by omega)).trans hx2
        obtain ⟨x3, hx3⟩ : ∃ x, vs[k * 4 + 3]? = some x := ⟨_, List.getElem?_eq_getElem (by omega)⟩
        have d3 := (World.ownsRow.cellAt hrow (k * 4 + 3) (by omega)).trans hx3
        clear hx0 hx1 hx2 hx3
        have h4 := four_set hrow k (.int .i64 (-1)) (.int .i64 (-2)) (.int .i64 (-3)) (.bool true)
        have HR : Hid (RowC W.heap.size ((((wr.setCell ⟨gx, k * 4, none⟩ (.int .i64 (-1))).setCell ⟨gx, k * 4 + 1, none⟩ (.int .i64 (-2))).setCell ⟨gx, k * 4 + 2, none⟩ (.int .i64 (-3))).setCell ⟨gx, k * 4 + 3, none⟩ (.bool true)) (.slice (some ⟨gx, 0, none⟩) N qa) N (set4 vs k (.int .i64 (-1)) (.int .i64 (-2)) (.int .i64 (-3)) (.bool true))) := h4.1
        have HG : Hid (w8.grownBy ((((wr.setCell ⟨gx, k * 4, none⟩ (.int .i64 (-1))).setCell ⟨gx, k * 4 + 1, none⟩ (.int .i64 (-2))).setCell ⟨gx, k * 4 + 2, none⟩ (.int .i64 (-3))).setCell ⟨gx, k * 4 + 3, none⟩ (.bool true)) (some gx)) := grownBy_trans hgr.out h4.2
        have HM : Hid (∀ i, i < k + 1 → (set4 vs k (.int .i64 (-1)) (.int .i64 (-2)) (.int .i64 (-3)) (.bool true))[i * 4]? = some (.int .i64 (-1))) := mark_set vs k _ _ _ _ (by omega) hmk.out
        clear hrow h4
        go_wp2_with fail
        go_roundw
        case rel => exact ⟨k + 1, _, by omega, by go_num, HR.out, HM, HG⟩
        case measure => simp [intOf]; omega
      · have ek : N = k := by omega
        subst ek
        have SA : Hid (FrS kind P r n start rule bb w N M (rs.flatMap instC) (rs'.flatMap instC) W.heap.size (.slice sa N qa) (.slice sb M qb) (.slice sc N qc) (.slice s7 N q7) (.slice s8 M q8) vs (rs.flatMap instC) wr) := S.out.a D.out hrow hgr.out
        have MA : Hid (∀ i, i < N → vs[i * 4]? = some (.int .i64 (-1))) := hmk
        clear hrow hmk hgr S hlt hk
        generalize wr = wx at *
        generalize vs = va at *
        go_wp2_with fail
        go_loopw [14] (fun vi wr => ∃ (k : Nat) (vs : List Value), k ≤ N ∧ vi = .int .i64 (k : Int) ∧ RowC W.heap.size wr (.slice sc N qc) N vs ∧ Hid (∀ i, i < k → vs[i * 4]? = some (.int .i64 (-5))) ∧ Hid (wx.grownBy wr (Value.slice sc N qc).ownBlock)) (fun vi _ => N - (intOf vi).toNat)
        case atStart => exact ⟨0, _, by omega, rfl, SA.out.rc, fun i hi => by omega, grownBy_refl _ _⟩
        case round =>
          obtain ⟨k, vs, hk, rfl, hrow, hmk, hgr⟩ := hrel
          by_cases hlt : (k : Int) < (N : Int)
          · obtain ⟨gx, hsx⟩ : ∃ gx, sc = some ⟨gx, 0, none⟩ := by
              rcases hrow.2 with ⟨h1, h2⟩ | ⟨gx, _, _, h1, _⟩
              · omega
              · simp only [Value.slice.injEq] at h1; exact ⟨gx, h1.1⟩
            subst hsx
            have hl := hrow.1
            have f0 := World.ownsRow.frozenAt hrow (k * 4)
            have f1 := World.ownsRow.frozenAt hrow (k * 4 + 1)
            have f2 := World.ownsRow.frozenAt hrow (k * 4 + 2)
            have f3 := World.ownsRow.frozenAt hrow (k * 4 + 3)
            obtain ⟨x0, hx0⟩ : ∃ x, vs[k * 4]? = some x := ⟨_, List.getElem?_eq_getElem (by omega)⟩
            have d0 := (World.ownsRow.cellAt hrow (k * 4) (by omega)).trans hx0
            obtain ⟨x1, hx1⟩ : ∃ x, vs[k * 4 + 1]? = some x := ⟨_, List.getElem?_eq_getElem (by omega)⟩
            have d1 := (World.ownsRow.cellAt hrow (k * 4 + 1) (by omega)).trans hx1
            obtain ⟨x2, hx2⟩ : ∃ x, vs[k * 4 + 2]? = some x := ⟨_, List.getElem?_eq_getElem (by omega)⟩
            have d2 := (World.ownsRow.cellAt hrow (k * 4 + 2) (by omega)).trans hx2
            obtain ⟨x3, hx3⟩ : ∃ x, vs[k * 4 + 3]? = some x := ⟨_, List.getElem?_eq_getElem (by omega)⟩
            have d3 := (World.ownsRow.cellAt hrow (k * 4 + 3) (by omega)).trans hx3
            clear hx0 hx1 hx2 hx3
            have h4 := four_set hrow k (.int .i64 (-5)) (.int .i64 (-6)) (.int .i64 (-7)) (.bool true)
            have HR : Hid (RowC W.heap.size ((((wr.setCell ⟨gx, k * 4, none⟩ (.int .i64 (-5))).setCell ⟨gx, k * 4 + 1, none⟩ (.int .i64 (-6))).setCell ⟨gx, k * 4 + 2, none⟩ (.int .i64 (-7))).setCell ⟨gx, k * 4 + 3, none⟩ (.bool true)) (.slice (some ⟨gx, 0, none⟩) N qc) N (set4 vs k (.int .i64 (-5)) (.int .i64 (-6)) (.int .i64 (-7)) (.bool true))) := h4.1
            have HG : Hid (wx.grownBy ((((wr.setCell ⟨gx, k * 4, none⟩ (.int .i64 (-5))).setCell ⟨gx, k * 4 + 1, none⟩ (.int .i64 (-6))).setCell ⟨gx, k * 4 + 2, none⟩ (.int .i64 (-7))).setCell ⟨gx, k * 4 + 3, none⟩ (.bool true)) (some gx)) := grownBy_trans hgr.out h4.2
            have HM : Hid (∀ i, i < k + 1 → (set4 vs k (.int .i64 (-5)) (.int .i64 (-6)) (.int .i64 (-7)) (.bool true))[i * 4]? = some (.int .i64 (-5))) := mark_set vs k _ _ _ _ (by omega) hmk.out
            clear hrow h4
            go_wp2_with fail
            go_roundw
            case rel => exact ⟨k + 1, _, by omega, by go_num, HR.out, HM, HG⟩
            case measure => simp [intOf]; omega
          · have ek : N = k := by omega
            subst ek
            have SC : Hid (FrS kind P r n start rule bb w N M (rs.flatMap instC) (rs'.flatMap instC) W.heap.size (.slice sa N qa) (.slice sb M qb) (.slice sc N qc) (.slice s7 N q7) (.slice s8 M q8) va vs wr) := SA.out.c D.out hrow hgr.out
            have MC : Hid (∀ i, i < N → vs[i * 4]? = some (.int .i64 (-5))) := hmk
            clear hrow hmk hgr SA hlt hk
            generalize wr = wy at *
            generalize vs = vc at *
            go_wp2_with fail
            refine (AL'.out _ _ _ _ _ (RowC.inst hM SC.out.rb) (RowC.inst hM SC.out.kb)).mono ?_
            rintro e w9 ⟨rfl, m9, hw⟩; rw [hw]; clear hw w9
            have S9 : Hid (FrS kind P r n start rule bb w N M (rs.flatMap instC) (rs'.flatMap instC) W.heap.size (.slice sa N qa) (.slice sb M qb) (.slice sc N qc) (.slice s7 N q7) (.slice s8 M q8) va vc (wy.drewN m9)) := SC.out.dr m9
            clear SC
            generalize wy.drewN m9 = w9 at *
            go_wp2_with fail
            refine (GO.out _ _ _ _ _ _ S9.out.ra N1 S9.out.sz).mono ?_
            rintro e w10 ⟨rfl, r10, g10⟩
            have S10 : Hid (FrS kind P r n start rule bb w N M (rs.flatMap instC) (rs'.flatMap instC) W.heap.size (.slice sa N qa) (.slice sb M qb) (.slice sc N qc) (.slice s7 N q7) (.slice s8 M q8) va vc w10) := S9.out.a D.out r10 g10
            clear S9 r10 g10
            go_wp2_with fail
            refine (GO.out _ _ _ _ _ _ S10.out.rc N1 S10.out.sz).mono ?_
            rintro e w11 ⟨rfl, r11, g11⟩
            have S11 : Hid (FrS kind P r n start rule bb w N M (rs.flatMap instC) (rs'.flatMap instC) W.heap.size (.slice sa N qa) (.slice sb M qb) (.slice sc N qc) (.slice s7 N q7) (.slice s8 M q8) va vc w11) := S10.out.c D.out r11 g11
            clear S10 r11 g11
            go_wp2_with fail
            refine (GO.out _ _ _ _ _ _ S11.out.rb M1 S11.out.sz).mono ?_
            rintro e w12 ⟨rfl, r12, g12⟩
            have S12 : Hid (FrS kind P r n start rule bb w N M (rs.flatMap instC) (rs'.flatMap instC) W.heap.size (.slice sa N qa) (.slice sb M qb) (.slice sc N qc) (.slice s7 N q7) (.slice s8 M q8) va vc w12) := S11.out.b D.out r12 g12
            clear S11 r12 g12
            go_wp2_with fail
            refine (AL'.out _ _ _ _ _ (RowC.inst hM S12.out.rb) (RowC.inst hM S12.out.kb)).mono ?_
            rintro e w13 ⟨rfl, m13, hw⟩; rw [hw]; clear hw w13
            have S13 : Hid (FrS kind P r n start rule bb w N M (rs.flatMap instC) (rs'.flatMap instC) W.heap.size (.slice sa N qa) (.slice sb M qb) (.slice sc N qc) (.slice s7 N q7) (.slice s8 M q8) va vc (w12.drewN m13)) := S12.out.dr m13
            clear S12 GO AL'
            generalize w12.drewN m13 = w13 at *
            go_wp2_with fail
            go_loopw [15] (fun vi wr => ∃ (k : Nat), k ≤ N ∧ vi = .int .i64 (k : Int) ∧ ∃ m, wr = w13.drewN m) (fun vi _ => N - (intOf vi).toNat)
            case atStart => exact ⟨0, by omega, rfl, 0, rfl⟩
            case round =>
              obtain ⟨k, hk, rfl, m, rfl⟩ := hrel
              by_cases hlt : (k : Int) < (N : Int)
              · have ra := S13.out.ra
                have rc := S13.out.rc
                have la := ra.1
                have lc := rc.1
                obtain ⟨gx, hsx⟩ : ∃ gx, sa = some ⟨gx, 0, none⟩ := by
                  rcases ra.2 with ⟨h1, h2⟩ | ⟨gx, _, _, h1, _⟩
                  · omega
                  · simp only [Value.slice.injEq] at h1; exact ⟨gx, h1.1⟩
                obtain ⟨gy, hsy⟩ : ∃ gy, sc = some ⟨gy, 0, none⟩ := by
                  rcases rc.2 with ⟨h1, h2⟩ | ⟨gy, _, _, h1, _⟩
                  · omega
                  · simp only [Value.slice.injEq] at h1; exact ⟨gy, h1.1⟩
                subst hsx hsy
                have da : (w13.drewN m).cell? ⟨gx, k * 4, none⟩ = some (.int .i64 (-1)) := (World.ownsRow.cellAt ra (k * 4) (by omega)).trans (MA.out k (by omega))
                have dc : (w13.drewN m).cell? ⟨gy, k * 4, none⟩ = some (.int .i64 (-5)) := (World.ownsRow.cellAt rc (k * 4) (by omega)).trans (MC.out k (by omega))
                clear ra rc la lc
                go_wp2_with fail
                go_roundw
                case rel => exact ⟨k + 1, by omega, by go_num, m, rfl⟩
                case measure => simp [intOf]; omega
              · have ek : N = k := by omega
                subst ek
                have S14 : Hid (FrS kind P r n start rule bb w N M (rs.flatMap instC) (rs'.flatMap instC) W.heap.size (.slice sa N qa) (.slice sb M qb) (.slice sc N qc) (.slice s7 N q7) (.slice s8 M q8) va vc (w13.drewN m)) := S13.out.dr m
                clear S13 MA MC hlt hk
                generalize w13.drewN m = w14 at *
                obtain ⟨c0, c1, c2, c3, c4, c5⟩ := S14.out.ta
                go_wp2_with fail
                refine (PL.out _ (HA.out.up S14.out.up) (HT.out.up S14.out.up)).mono ?_
                rintro e w15 ⟨sd, qd, rfl, RD, U15⟩
                have ID : Hid (InstOk w15 sd rs) := RowC.inst hN (by have := RD; unfold RowI at this; rw [hN] at this; exact this)
                have IK : Hid (InstOk w15 s7 rs) := RowC.inst hN (S14.out.ka.up U15)
                have UE : Hid (Up w w15) := S14.out.up.trans U15
                clear c0 c1 c2 c3 c4 c5 RD U15 S14
                go_wp2_with fail
                refine (AL.out _ _ _ _ _ ID.out IK.out).mono ?_
                rintro e w16 ⟨rfl, m16, hw⟩; rw [hw]; clear hw w16
                go_wp2_with fail
                go_ret
                exact ⟨rfl, up_drewN UE.out m16⟩

set_option maxRecDepth 100000 in
set_option maxHeartbeats 20000000 in
theorem fresh_s1 (kind P r n start rule kind' P' r' n' start' rule' : Int) (N M : Nat) (rs rs' : List R3) (ok ok' : Bool) (N1 : N ≤ 120) (M1 : M ≤ 120) (hN : rs.length = N) (hM : rs'.length = M)
    (PL : Hid (∀ (w : World), TabA w → TabL w → Calls Tryd.prog 6 #[termsV kind P r n start rule, .slice none 0 0] w fun e w' => ∃ s q, e = .returned (.tuple #[.slice s N q, .bool ok]) ∧ RowI w.heap.size w' (.slice s N q) rs ∧ Up w w'))
    (PU : Hid (∀ (w : World), TabA w → TabL w → Calls Tryd.prog 6 #[termsV kind' P' r' n' start' rule', .slice none 0 0] w fun e w' => ∃ s q, e = .returned (.tuple #[.slice s M q, .bool ok']) ∧ RowI w.heap.size w' (.slice s M q) rs' ∧ Up w w'))
    (MZ : ok' = false → M = 0)
    (EA : Hid (∀ w, Calls Tryd.prog 7 #[.int .i64 P, .int .i64 r, .int .i64 n] w fun e w' => e = .returned (.bool true) ∧ w' = w))
    (k0 : 0 ≤ kind) (k1 : kind ≤ 2) (s0 : 1 ≤ start) (s1 : ¬ start ≤ 3640000) (w : World) (hA : TabA w) (hL : TabL w) :
    Calls Tryd.prog 3 #[termsV kind P r n start rule, termsV kind' P' r' n' start' rule'] w fun e w' => e = .returned (.bool true) ∧ Up w w' := by
  obtain ⟨i0, hi, hz0, hz1, hz2⟩ := info_parts infoInst
  have AL : Hid (∀ (s s' : Option Addr) (c c' : Nat) (w : World), InstOk w s rs → InstOk w s' rs → Calls Tryd.prog 8 #[.slice s N c, .slice s' N c'] w fun e w' => e = .returned (.bool true) ∧ ∃ n, w' = w.drewN n) := fun s s' c c' w h h' => by
    have := alike_at s s' c c' rs w h h'
    rw [hN] at this; exact this
  have AL' : Hid (∀ (s s' : Option Addr) (c c' : Nat) (w : World), InstOk w s rs' → InstOk w s' rs' → Calls Tryd.prog 8 #[.slice s M c, .slice s' M c'] w fun e w' => e = .returned (.bool true) ∧ ∃ n, w' = w.drewN n) := fun s s' c c' w h h' => by
    have := alike_at s s' c c' rs' w h h'
    rw [hM] at this; exact this
  have HA : Hid (TabA w) := hA
  have HT : Hid (TabL w) := hL
  have NI : (N : Int) ≤ 120 := by omega
  have MI : (M : Int) ≤ 120 := by omega
  have HMZ : Hid (ok' = false → M = 0) := MZ
  clear hA hL MZ
  unfold termsV at *
  go_enter Tryd.func3, Tryd.ntmps3
  go_wp2_with fail
  have U0 : Up w ((w.alloc (.cells #[.int .i64 kind, .int .i64 P, .int .i64 r, .int .i64 n, .int .i64 start, .int .i64 rule] 23)).alloc (.cells #[.int .i64 kind', .int .i64 P', .int .i64 r', .int .i64 n', .int .i64 start', .int .i64 rule'] 23)) := ((Up.refl w).alloc _).alloc _
  have U01 : Up (w.alloc (.cells #[.int .i64 kind, .int .i64 P, .int .i64 r, .int .i64 n, .int .i64 start, .int .i64 rule] 23)) ((w.alloc (.cells #[.int .i64 kind, .int .i64 P, .int .i64 r, .int .i64 n, .int .i64 start, .int .i64 rule] 23)).alloc (.cells #[.int .i64 kind', .int .i64 P', .int .i64 r', .int .i64 n', .int .i64 start', .int .i64 rule'] 23)) := (Up.refl _).alloc _
  have TA : Hid (TermsAt kind P r n start rule w.heap.size ((w.alloc (.cells #[.int .i64 kind, .int .i64 P, .int .i64 r, .int .i64 n, .int .i64 start, .int .i64 rule] 23)).alloc (.cells #[.int .i64 kind', .int .i64 P', .int .i64 r', .int .i64 n', .int .i64 start', .int .i64 rule'] 23))) := ⟨cell_in U01 0 _ rfl, cell_in U01 1 _ rfl, cell_in U01 2 _ rfl, cell_in U01 3 _ rfl, cell_in U01 4 _ rfl, cell_in U01 5 _ rfl⟩
  have TB : Hid (TermsAt kind' P' r' n' start' rule' (w.heap.size + 1) ((w.alloc (.cells #[.int .i64 kind, .int .i64 P, .int .i64 r, .int .i64 n, .int .i64 start, .int .i64 rule] 23)).alloc (.cells #[.int .i64 kind', .int .i64 P', .int .i64 r', .int .i64 n', .int .i64 start', .int .i64 rule'] 23))) := ⟨cell_new _ _ _ 0 _ _ rfl (by simp), cell_new _ _ _ 1 _ _ rfl (by simp), cell_new _ _ _ 2 _ _ rfl (by simp), cell_new _ _ _ 3 _ _ rfl (by simp), cell_new _ _ _ 4 _ _ rfl (by simp), cell_new _ _ _ 5 _ _ rfl (by simp)⟩
  have UW : Hid (Up w ((w.alloc (.cells #[.int .i64 kind, .int .i64 P, .int .i64 r, .int .i64 n, .int .i64 start, .int .i64 rule] 23)).alloc (.cells #[.int .i64 kind', .int .i64 P', .int .i64 r', .int .i64 n', .int .i64 start', .int .i64 rule'] 23))) := U0
  have SZ : Hid (((w.alloc (.cells #[.int .i64 kind, .int .i64 P, .int .i64 r, .int .i64 n, .int .i64 start, .int .i64 rule] 23)).alloc (.cells #[.int .i64 kind', .int .i64 P', .int .i64 r', .int .i64 n', .int .i64 start', .int .i64 rule'] 23)).heap.size = w.heap.size + 2) := by show _ = _; simp
  clear U0 U01
  generalize ((w.alloc (.cells #[.int .i64 kind, .int .i64 P, .int .i64 r, .int .i64 n, .int .i64 start, .int .i64 rule] 23)).alloc (.cells #[.int .i64 kind', .int .i64 P', .int .i64 r', .int .i64 n', .int .i64 start', .int .i64 rule'] 23)) = W at *
  generalize hbb : w.heap.size = bb at *
  have HB : Hid (w.heap.size = bb) := hbb
  clear hbb
  obtain ⟨c0, c1, c2, c3, c4, c5⟩ := TA.out
  obtain ⟨e0, e1, e2, e3, e4, e5⟩ := TB.out
  refine (PL.out _ (HA.out.up UW.out) (HT.out.up UW.out)).mono ?_
  rintro e w3 ⟨sa, qa, rfl, RA, U3⟩
  have TA3 : Hid (TermsAt kind P r n start rule bb w3) := TA.out.up U3
  have TB3 : Hid (TermsAt kind' P' r' n' start' rule' (bb + 1) w3) := TB.out.up U3
  have UW3 : Hid (Up w w3) := UW.out.trans U3
  have RA3 : Hid (RowI W.heap.size w3 (.slice sa N qa) rs) := RA
  have SZ3 : Hid (W.heap.size ≤ w3.heap.size) := Below.size U3
  clear c0 c1 c2 c3 c4 c5 e0 e1 e2 e3 e4 e5 TA TB UW RA U3
  obtain ⟨c0, c1, c2, c3, c4, c5⟩ := TA3.out
  obtain ⟨e0, e1, e2, e3, e4, e5⟩ := TB3.out
  go_wp2_with fail
  refine (PU.out _ (HA.out.up UW3.out) (HT.out.up UW3.out)).mono ?_
  rintro e w4 ⟨sb, qb, rfl, RB, U4⟩
  have TA4 : Hid (TermsAt kind P r n start rule bb w4) := TA3.out.up U4
  have UW4 : Hid (Up w w4) := UW3.out.trans U4
  have RA4 : Hid (RowI W.heap.size w4 (.slice sa N qa) rs) := RA3.out.later U4
  have RB4 : Hid (RowI w3.heap.size w4 (.slice sb M qb) rs') := RB
  have SZ4 : Hid (w3.heap.size ≤ w4.heap.size) := Below.size U4
  have NAB := blk_ne RA3.out (Nat.le_refl _) RB
  have HAB : Hid ((Value.slice sa N qa).ownBlock = none ∨ (Value.slice sa N qa).ownBlock ≠ (Value.slice sb M qb).ownBlock) := NAB.1
  have HBA : Hid ((Value.slice sb M qb).ownBlock = none ∨ (Value.slice sb M qb).ownBlock ≠ (Value.slice sa N qa).ownBlock) := NAB.2
  clear c0 c1 c2 c3 c4 c5 e0 e1 e2 e3 e4 e5 TA3 TB3 UW3 RA3 RB U4 NAB PU
  obtain ⟨c0, c1, c2, c3, c4, c5⟩ := TA4.out
  go_wp2_with fail
  refine (PL.out _ (HA.out.up UW4.out) (HT.out.up UW4.out)).mono ?_
  rintro e w5 ⟨sc, qc, rfl, RC, U5⟩
  have TA5 : Hid (TermsAt kind P r n start rule bb w5) := TA4.out.up U5
  have UW5 : Hid (Up w w5) := UW4.out.trans U5
  have RA5 : Hid (RowI W.heap.size w5 (.slice sa N qa) rs) := RA4.out.later U5
  have RB5 : Hid (RowI w3.heap.size w5 (.slice sb M qb) rs') := RB4.out.later U5
  have RC5 : Hid (RowI w4.heap.size w5 (.slice sc N qc) rs) := RC
  have SZ5 : Hid (w4.heap.size ≤ w5.heap.size) := Below.size U5
  have NAC := blk_ne RA4.out (Nat.le_refl _) RC
  have NBC := blk_ne RB4.out (Nat.le_refl _) RC
  have HAC : Hid ((Value.slice sa N qa).ownBlock = none ∨ (Value.slice sa N qa).ownBlock ≠ (Value.slice sc N qc).ownBlock) := NAC.1
  have HCA : Hid ((Value.slice sc N qc).ownBlock = none ∨ (Value.slice sc N qc).ownBlock ≠ (Value.slice sa N qa).ownBlock) := NAC.2
  have HBC : Hid ((Value.slice sb M qb).ownBlock = none ∨ (Value.slice sb M qb).ownBlock ≠ (Value.slice sc N qc).ownBlock) := NBC.1
  have HCB : Hid ((Value.slice sc N qc).ownBlock = none ∨ (Value.slice sc N qc).ownBlock ≠ (Value.slice sb M qb).ownBlock) := NBC.2
  clear c0 c1 c2 c3 c4 c5 TA4 UW4 RA4 RB4 RC U5 NAC NBC
  obtain ⟨c0, c1, c2, c3, c4, c5⟩ := TA5.out
  have IA5 : Hid (InstOk w5 sa rs) := by
    obtain ⟨s, q, hv, I⟩ := RowI.form2 RA5.out
    simp only [Value.slice.injEq] at hv
    obtain ⟨rfl, _, _⟩ := hv
    exact I
  have IC5 : Hid (InstOk w5 sc rs) := by
    obtain ⟨s, q, hv, I⟩ := RowI.form2 RC5.out
    simp only [Value.slice.injEq] at hv
    obtain ⟨rfl, _, _⟩ := hv
    exact I
  go_wp2_with fail
  refine (EA.out _).mono ?_
  rintro e w6 ⟨rfl, hw⟩; rw [hw]; clear hw w6
  go_wp2_with fail
  refine (AL.out _ _ _ _ _ IA5.out IC5.out).mono ?_
  rintro e w6 ⟨rfl, m6, hw⟩; rw [hw]; clear hw w6
  have TA6 : Hid (TermsAt kind P r n start rule bb (w5.drewN m6)) := TA5.out.up (up_drewN (Up.refl _) m6)
  have UW6 : Hid (Up w (w5.drewN m6)) := up_drewN UW5.out m6
  have RA6 : Hid (RowI W.heap.size (w5.drewN m6) (.slice sa N qa) rs) := RA5.out
  have RB6 : Hid (RowI w3.heap.size (w5.drewN m6) (.slice sb M qb) rs') := RB5.out
  have RC6 : Hid (RowI w4.heap.size (w5.drewN m6) (.slice sc N qc) rs) := RC5.out
  have SZ6 : Hid (w4.heap.size ≤ (w5.drewN m6).heap.size) := SZ5.out
  clear c0 c1 c2 c3 c4 c5 TA5 UW5 RA5 RB5 RC5 SZ5 IA5 IC5
  generalize w5.drewN m6 = w6 at *
  have hcA : RowC W.heap.size w6 (.slice sa N qa) N (rs.flatMap instC) := by have := RA6.out; unfold RowI at this; rw [hN] at this; exact this
  have HMB : ok' = true ∨ (ok' = false ∧ ((M : Int) != 0) = false) := by
    cases ok' with
    | true => exact .inl rfl
    | false => exact .inr ⟨rfl, by rw [HMZ.out rfl]; rfl⟩
  clear HMZ
  rcases HMB with rfl | ⟨rfl, hM0⟩
  all_goals
    go_wp2_with (first | (at_builtin; refine wpList_keep rfl (.tmp 99) (.tmp 100) 24 rfl i0 Tryd.underlying24 hi _ hz0 rfl hz1 hz2 W.heap.size N _ _ rfl rfl hcA N1 (one_flat _) ?_; intro v7 w7 hk7 hb7; have hcB : RowC w3.heap.size w7 (.slice sb M qb) M (rs'.flatMap instC) := (by have := RB6.out.later hb7; unfold RowI at this; rw [hM] at this; exact this)) | (at_builtin; refine wpList_keep rfl (.tmp 102) (.tmp 103) 24 rfl i0 Tryd.underlying24 hi _ hz0 rfl hz1 hz2 w3.heap.size M _ _ rfl rfl hcB M1 (one_flat _) ?_; intro v8 w8 hk8 hb8))
    have U8 : Up w6 w8 := Up.trans hb7 hb8
    have S67 : w6.heap.size ≤ w7.heap.size := Below.size hb7
    have z1 := SZ.out
    have z2 := SZ3.out
    have z3 := SZ4.out
    have z4 := SZ6.out
    have z5 := HB.out
    have cA : RowC W.heap.size w6 (.slice sa N qa) N (rs.flatMap instC) := hcA
    have cB : RowC w3.heap.size w6 (.slice sb M qb) M (rs'.flatMap instC) := by have := RB6.out; unfold RowI at this; rw [hM] at this; exact this
    have cC : RowC w4.heap.size w6 (.slice sc N qc) N (rs.flatMap instC) := by have := RC6.out; unfold RowI at this; rw [hN] at this; exact this
    obtain ⟨s7, q7, h7⟩ := RowC.slice hk7
    obtain ⟨s8, q8, h8⟩ := RowC.slice hk8
    subst h7 h8
    have D : Hid (FrD (.slice sa N qa) (.slice sb M qb) (.slice sc N qc) (.slice s7 N q7) (.slice s8 M q8)) := ⟨HAB.out, HAC.out, HBA.out, HBC.out, HCA.out, HCB.out, (blk_ne cA (Nat.le_refl _) hk7).2, (blk_ne cB (Nat.le_refl _) hk7).2, (blk_ne cC (Nat.le_refl _) hk7).2, (blk_ne cA S67 hk8).2, (blk_ne cB S67 hk8).2, (blk_ne cC S67 hk8).2⟩
    have S : Hid (FrS kind P r n start rule bb w N M (rs.flatMap instC) (rs'.flatMap instC) W.heap.size (.slice sa N qa) (.slice sb M qb) (.slice sc N qc) (.slice s7 N q7) (.slice s8 M q8) (rs.flatMap instC) (rs.flatMap instC) w8) := ⟨UW6.out.trans U8, by omega, (by have := Below.size U8; omega), by omega, TA6.out.up U8, cA.up U8, (cB.up U8).low z2, (cC.up U8).low (by omega), (RowC.up hk7 hb8).low (by omega), hk8.low (by omega)⟩
    clear z1 z2 z3 z4 cA cB cC U8 hb7 hb8 hk7 hk8 S67 TA6 UW6 RA6 RB6 RC6 SZ6 SZ SZ3 SZ4 hcA hcB HAB HAC HBA HBC HCA HCB
    have GO : Hid (∀ (k : Nat) (s : Option Addr) (q : Nat) (us : List Value) (d : Int) (w : World), RowC W.heap.size w (.slice s k q) k us → k ≤ 120 → W.heap.size ≤ w.heap.size → Calls Tryd.prog 9 #[.slice s k q, .int .i64 d] w fun e w' => e = .returned (.bool true) ∧ RowC W.heap.size w' (.slice s k q) k us ∧ w.grownBy w' (Value.slice s k q).ownBlock) := fun k s q us d w h hk hb => goneOn_at W.heap.size k s q us d w h hk hb
    go_loopw [13] (fun vi wr => ∃ (k : Nat) (vs : List Value), k ≤ N ∧ vi = .int .i64 (k : Int) ∧ RowC W.heap.size wr (.slice sa N qa) N vs ∧ Hid (∀ i, i < k → vs[i * 4]? = some (.int .i64 (-1))) ∧ Hid (w8.grownBy wr (Value.slice sa N qa).ownBlock)) (fun vi _ => N - (intOf vi).toNat)
    case atStart => exact ⟨0, _, by omega, rfl, S.out.ra, fun i hi => by omega, grownBy_refl _ _⟩
    case round =>
      obtain ⟨k, vs, hk, rfl, hrow, hmk, hgr⟩ := hrel
      by_cases hlt : (k : Int) < (N : Int)
      · obtain ⟨gx, hsx⟩ : ∃ gx, sa = some ⟨gx, 0, none⟩ := by
          rcases hrow.2 with ⟨h1, h2⟩ | ⟨gx, _, _, h1, _⟩
          · omega
          · simp only [Value.slice.injEq] at h1; exact ⟨gx, h1.1⟩
        subst hsx
        have hl := hrow.1
        have f0 := World.ownsRow.frozenAt hrow (k * 4)
        have f1 := World.ownsRow.frozenAt hrow (k * 4 + 1)
        have f2 := World.ownsRow.frozenAt hrow (k * 4 + 2)
        have f3 := World.ownsRow.frozenAt hrow (k * 4 + 3)
        obtain ⟨x0, hx0⟩ : ∃ x, vs[k * 4]? = some x := ⟨_, List.getElem?_eq_getElem (by omega)⟩
        have d0 := (World.ownsRow.cellAt hrow (k * 4) (by omega)).trans hx0
        obtain ⟨x1, hx1⟩ : ∃ x, vs[k * 4 + 1]? = some x := ⟨_, List.getElem?_eq_getElem (by omega)⟩
        have d1 := (World.ownsRow.cellAt hrow (k * 4 + 1) (by omega)).trans hx1
        obtain ⟨x2, hx2⟩ : ∃ x, vs[k * 4 + 2]? = some x := ⟨_, List.getElem?_eq_getElem (by omega)⟩
        have d2 := (World.ownsRow.cellAt hrow (k * 4 + 2) (by omega)).trans hx2
        obtain ⟨x3, hx3⟩ : ∃ x, vs[k * 4 + 3]? = some x := ⟨_, List.getElem?_eq_getElem (by omega)⟩
        have d3 := (World.ownsRow.cellAt hrow (k * 4 + 3) (by omega)).trans hx3
        clear hx0 hx1 hx2 hx3
        have h4 := four_set hrow k (.int .i64 (-1)) (.int .i64 (-2)) (.int .i64 (-3)) (.bool true)
        have HR : Hid (RowC W.heap.size ((((wr.setCell ⟨gx, k * 4, none⟩ (.int .i64 (-1))).setCell ⟨gx, k * 4 + 1, none⟩ (.int .i64 (-2))).setCell ⟨gx, k * 4 + 2, none⟩ (.int .i64 (-3))).setCell ⟨gx, k * 4 + 3, none⟩ (.bool true)) (.slice (some ⟨gx, 0, none⟩) N qa) N (set4 vs k (.int .i64 (-1)) (.int .i64 (-2)) (.int .i64 (-3)) (.bool true))) := h4.1
        have HG : Hid (w8.grownBy ((((wr.setCell ⟨gx, k * 4, none⟩ (.int .i64 (-1))).setCell ⟨gx, k * 4 + 1, none⟩ (.int .i64 (-2))).setCell ⟨gx, k * 4 + 2, none⟩ (.int .i64 (-3))).setCell ⟨gx, k * 4 + 3, none⟩ (.bool true)) (some gx)) := grownBy_trans hgr.out h4.2
        have HM : Hid (∀ i, i < k + 1 → (set4 vs k (.int .i64 (-1)) (.int .i64 (-2)) (.int .i64 (-3)) (.bool true))[i * 4]? = some (.int .i64 (-1))) := mark_set vs k _ _ _ _ (by omega) hmk.out
        clear hrow h4
        go_wp2_with fail
        go_roundw
        case rel => exact ⟨k + 1, _, by omega, by go_num, HR.out, HM, HG⟩
        case measure => simp [intOf]; omega
      · have ek : N = k := by omega
        subst ek
        have SA : Hid (FrS kind P r n start rule bb w N M (rs.flatMap instC) (rs'.flatMap instC) W.heap.size (.slice sa N qa) (.slice sb M qb) (.slice sc N qc) (.slice s7 N q7) (.slice s8 M q8) vs (rs.flatMap instC) wr) := S.out.a D.out hrow hgr.out
        have MA : Hid (∀ i, i < N → vs[i * 4]? = some (.int .i64 (-1))) := hmk
        clear hrow hmk hgr S hlt hk
        generalize wr = wx at *
        generalize vs = va at *
        go_wp2_with fail
        go_loopw [14] (fun vi wr => ∃ (k : Nat) (vs : List Value), k ≤ N ∧ vi = .int .i64 (k : Int) ∧ RowC W.heap.size wr (.slice sc N qc) N vs ∧ Hid (∀ i, i < k → vs[i * 4]? = some (.int .i64 (-5))) ∧ Hid (wx.grownBy wr (Value.slice sc N qc).ownBlock)) (fun vi _ => N - (intOf vi).toNat)
        case atStart => exact ⟨0, _, by omega, rfl, SA.out.rc, fun i hi => by omega, grownBy_refl _ _⟩
        case round =>
          obtain ⟨k, vs, hk, rfl, hrow, hmk, hgr⟩ := hrel
          by_cases hlt : (k : Int) < (N : Int)
          · obtain ⟨gx, hsx⟩ : ∃ gx, sc = some ⟨gx, 0, none⟩ := by
              rcases hrow.2 with ⟨h1, h2⟩ | ⟨gx, _, _, h1, _⟩
              · omega
              · simp only [Value.slice.injEq] at h1; exact ⟨gx, h1.1⟩
            subst hsx
            have hl := hrow.1
            have f0 := World.ownsRow.frozenAt hrow (k * 4)
            have f1 := World.ownsRow.frozenAt hrow (k * 4 + 1)
            have f2 := World.ownsRow.frozenAt hrow (k * 4 + 2)
            have f3 := World.ownsRow.frozenAt hrow (k * 4 + 3)
            obtain ⟨x0, hx0⟩ : ∃ x, vs[k * 4]? = some x := ⟨_, List.getElem?_eq_getElem (by omega)⟩
            have d0 := (World.ownsRow.cellAt hrow (k * 4) (by omega)).trans hx0
            obtain ⟨x1, hx1⟩ : ∃ x, vs[k * 4 + 1]? = some x := ⟨_, List.getElem?_eq_getElem (by omega)⟩
            have d1 := (World.ownsRow.cellAt hrow (k * 4 + 1) (by omega)).trans hx1
            obtain ⟨x2, hx2⟩ : ∃ x, vs[k * 4 + 2]? = some x := ⟨_, List.getElem?_eq_getElem (by omega)⟩
            have d2 := (World.ownsRow.cellAt hrow (k * 4 + 2) (by omega)).trans hx2
            obtain ⟨x3, hx3⟩ : ∃ x, vs[k * 4 + 3]? = some x := ⟨_, List.getElem?_eq_getElem (by omega)⟩
            have d3 := (World.ownsRow.cellAt hrow (k * 4 + 3) (by omega)).trans hx3
            clear hx0 hx1 hx2 hx3
            have h4 := four_set hrow k (.int .i64 (-5)) (.int .i64 (-6)) (.int .i64 (-7)) (.bool true)
            have HR : Hid (RowC W.heap.size ((((wr.setCell ⟨gx, k * 4, none⟩ (.int .i64 (-5))).setCell ⟨gx, k * 4 + 1, none⟩ (.int .i64 (-6))).setCell ⟨gx, k * 4 + 2, none⟩ (.int .i64 (-7))).setCell ⟨gx, k * 4 + 3, none⟩ (.bool true)) (.slice (some ⟨gx, 0, none⟩) N qc) N (set4 vs k (.int .i64 (-5)) (.int .i64 (-6)) (.int .i64 (-7)) (.bool true))) := h4.1
            have HG : Hid (wx.grownBy ((((wr.setCell ⟨gx, k * 4, none⟩ (.int .i64 (-5))).setCell ⟨gx, k * 4 + 1, none⟩ (.int .i64 (-6))).setCell ⟨gx, k * 4 + 2, none⟩ (.int .i64 (-7))).setCell ⟨gx, k * 4 + 3, none⟩ (.bool true)) (some gx)) := grownBy_trans hgr.out h4.2
            have HM : Hid (∀ i, i < k + 1 → (set4 vs k (.int .i64 (-5)) (.int .i64 (-6)) (.int .i64 (-7)) (.bool true))[i * 4]? = some (.int .i64 (-5))) := mark_set vs k _ _ _ _ (by omega) hmk.out
            clear hrow h4
            go_wp2_with fail
            go_roundw
            case rel => exact ⟨k + 1, _, by omega, by go_num, HR.out, HM, HG⟩
            case measure => simp [intOf]; omega
          · have ek : N = k := by omega
            subst ek
            have SC : Hid (FrS kind P r n start rule bb w N M (rs.flatMap instC) (rs'.flatMap instC) W.heap.size (.slice sa N qa) (.slice sb M qb) (.slice sc N qc) (.slice s7 N q7) (.slice s8 M q8) va vs wr) := SA.out.c D.out hrow hgr.out
            have MC : Hid (∀ i, i < N → vs[i * 4]? = some (.int .i64 (-5))) := hmk
            clear hrow hmk hgr SA hlt hk
            generalize wr = wy at *
            generalize vs = vc at *
            go_wp2_with fail
            refine (AL'.out _ _ _ _ _ (RowC.inst hM SC.out.rb) (RowC.inst hM SC.out.kb)).mono ?_
            rintro e w9 ⟨rfl, m9, hw⟩; rw [hw]; clear hw w9
            have S9 : Hid (FrS kind P r n start rule bb w N M (rs.flatMap instC) (rs'.flatMap instC) W.heap.size (.slice sa N qa) (.slice sb M qb) (.slice sc N qc) (.slice s7 N q7) (.slice s8 M q8) va vc (wy.drewN m9)) := SC.out.dr m9
            clear SC
            generalize wy.drewN m9 = w9 at *
            go_wp2_with fail
            refine (GO.out _ _ _ _ _ _ S9.out.ra N1 S9.out.sz).mono ?_
            rintro e w10 ⟨rfl, r10, g10⟩
            have S10 : Hid (FrS kind P r n start rule bb w N M (rs.flatMap instC) (rs'.flatMap instC) W.heap.size (.slice sa N qa) (.slice sb M qb) (.slice sc N qc) (.slice s7 N q7) (.slice s8 M q8) va vc w10) := S9.out.a D.out r10 g10
            clear S9 r10 g10
            go_wp2_with fail
            refine (GO.out _ _ _ _ _ _ S10.out.rc N1 S10.out.sz).mono ?_
            rintro e w11 ⟨rfl, r11, g11⟩
            have S11 : Hid (FrS kind P r n start rule bb w N M (rs.flatMap instC) (rs'.flatMap instC) W.heap.size (.slice sa N qa) (.slice sb M qb) (.slice sc N qc) (.slice s7 N q7) (.slice s8 M q8) va vc w11) := S10.out.c D.out r11 g11
            clear S10 r11 g11
            go_wp2_with fail
            refine (GO.out _ _ _ _ _ _ S11.out.rb M1 S11.out.sz).mono ?_
            rintro e w12 ⟨rfl, r12, g12⟩
            have S12 : Hid (FrS kind P r n start rule bb w N M (rs.flatMap instC) (rs'.flatMap instC) W.heap.size (.slice sa N qa) (.slice sb M qb) (.slice sc N qc) (.slice s7 N q7) (.slice s8 M q8) va vc w12) := S11.out.b D.out r12 g12
            clear S11 r12 g12
            go_wp2_with fail
            refine (AL'.out _ _ _ _ _ (RowC.inst hM S12.out.rb) (RowC.inst hM S12.out.kb)).mono ?_
            rintro e w13 ⟨rfl, m13, hw⟩; rw [hw]; clear hw w13
            have S13 : Hid (FrS kind P r n start rule bb w N M (rs.flatMap instC) (rs'.flatMap instC) W.heap.size (.slice sa N qa) (.slice sb M qb) (.slice sc N qc) (.slice s7 N q7) (.slice s8 M q8) va vc (w12.drewN m13)) := S12.out.dr m13
            clear S12 GO AL'
            generalize w12.drewN m13 = w13 at *
            go_wp2_with fail
            go_loopw [15] (fun vi wr => ∃ (k : Nat), k ≤ N ∧ vi = .int .i64 (k : Int) ∧ ∃ m, wr = w13.drewN m) (fun vi _ => N - (intOf vi).toNat)
            case atStart => exact ⟨0, by omega, rfl, 0, rfl⟩
            case round =>
              obtain ⟨k, hk, rfl, m, rfl⟩ := hrel
              by_cases hlt : (k : Int) < (N : Int)
              · have ra := S13.out.ra
                have rc := S13.out.rc
                have la := ra.1
                have lc := rc.1
                obtain ⟨gx, hsx⟩ : ∃ gx, sa = some ⟨gx, 0, none⟩ := by
                  rcases ra.2 with ⟨h1, h2⟩ | ⟨gx, _, _, h1, _⟩
                  · omega
                  · simp only [Value.slice.injEq] at h1; exact ⟨gx, h1.1⟩
                obtain ⟨gy, hsy⟩ : ∃ gy, sc = some ⟨gy, 0, none⟩ := by
                  rcases rc.2 with ⟨h1, h2⟩ | ⟨gy, _, _, h1, _⟩
                  · omega
                  · simp only [Value.slice.injEq] at h1; exact ⟨gy, h1.1⟩
                subst hsx hsy
                have da : (w13.drewN m).cell? ⟨gx, k * 4, none⟩ = some (.int .i64 (-1)) := (World.ownsRow.cellAt ra (k * 4) (by omega)).trans (MA.out k (by omega))
                have dc : (w13.drewN m).cell? ⟨gy, k * 4, none⟩ = some (.int .i64 (-5)) := (World.ownsRow.cellAt rc (k * 4) (by omega)).trans (MC.out k (by omega))
                clear ra rc la lc
                go_wp2_with fail
                go_roundw
                case rel => exact ⟨k + 1, by omega, by go_num, m, rfl⟩
                case measure => simp [intOf]; omega
              · have ek : N = k := by omega
                subst ek
                have S14 : Hid (FrS kind P r n start rule bb w N M (rs.flatMap instC) (rs'.flatMap instC) W.heap.size (.slice sa N qa) (.slice sb M qb) (.slice sc N qc) (.slice s7 N q7) (.slice s8 M q8) va vc (w13.drewN m)) := S13.out.dr m
                clear S13 MA MC hlt hk
                generalize w13.drewN m = w14 at *
                obtain ⟨c0, c1, c2, c3, c4, c5⟩ := S14.out.ta
                go_wp2_with fail
                refine (PL.out _ (HA.out.up S14.out.up) (HT.out.up S14.out.up)).mono ?_
                rintro e w15 ⟨sd, qd, rfl, RD, U15⟩
                have ID : Hid (InstOk w15 sd rs) := RowC.inst hN (by have := RD; unfold RowI at this; rw [hN] at this; exact this)
                have IK : Hid (InstOk w15 s7 rs) := RowC.inst hN (S14.out.ka.up U15)
                have UE : Hid (Up w w15) := S14.out.up.trans U15
                clear c0 c1 c2 c3 c4 c5 RD U15 S14
                go_wp2_with fail
                refine (AL.out _ _ _ _ _ ID.out IK.out).mono ?_
                rintro e w16 ⟨rfl, m16, hw⟩; rw [hw]; clear hw w16
                go_wp2_with fail
                go_ret
                exact ⟨rfl, up_drewN UE.out m16⟩

set_option maxRecDepth 100000 in
set_option maxHeartbeats 20000000 in
theorem fresh_u0 (kind P r n start rule kind' P' r' n' start' rule' : Int) (N M : Nat) (rs rs' : List R3) (ok ok' : Bool) (N1 : N ≤ 120) (M1 : M ≤ 120) (hN : rs.length = N) (hM : rs'.length = M)
    (PL : Hid (∀ (w : World), TabA w → TabL w → Calls Tryd.prog 6 #[termsV kind P r n start rule, .slice none 0 0] w fun e w' => ∃ s q, e = .returned (.tuple #[.slice s N q, .bool ok]) ∧ RowI w.heap.size w' (.slice s N q) rs ∧ Up w w'))
    (PU : Hid (∀ (w : World), TabA w → TabL w → Calls Tryd.prog 6 #[termsV kind' P' r' n' start' rule', .slice none 0 0] w fun e w' => ∃ s q, e = .returned (.tuple #[.slice s M q, .bool ok']) ∧ RowI w.heap.size w' (.slice s M q) rs' ∧ Up w w'))
    (MZ : ok' = false → M = 0)
    (EA : Hid (∀ w, Calls Tryd.prog 7 #[.int .i64 P, .int .i64 r, .int .i64 n] w fun e w' => e = .returned (.bool true) ∧ w' = w))
    (k0 : 0 ≤ kind) (k1 : kind ≤ 2) (s0 : 1 ≤ start) (s1 : start ≤ 3640000) (u0 : ¬ 0 ≤ rule) (w : World) (hA : TabA w) (hL : TabL w) :
    Calls Tryd.prog 3 #[termsV kind P r n start rule, termsV kind' P' r' n' start' rule'] w fun e w' => e = .returned (.bool true) ∧ Up w w' := by
  obtain ⟨i0, hi, hz0, hz1, hz2⟩ := info_parts infoInst
  have AL : Hid (∀ (s s' : Option Addr) (c c' : Nat) (w : World), InstOk w s rs → InstOk w s' rs → Calls Tryd.prog 8 #[.slice s N c, .slice s' N c'] w fun e w' => e = .returned (.bool true) ∧ ∃ n, w' = w.drewN n) := fun s s' c c' w h h' => by
    have := alike_at s s' c c' rs w h h'
    rw [hN] at this; exact this
  have AL' : Hid (∀ (s s' : Option Addr) (c c' : Nat) (w : World), InstOk w s rs' → InstOk w s' rs' → Calls Tryd.prog 8 #[.slice s M c, .slice s' M c'] w fun e w' => e = .returned (.bool true) ∧ ∃ n, w' = w.drewN n) := fun s s' c c' w h h' => by
    have := alike_at s s' c c' rs' w h h'
    rw [hM] at this; exact this
  have HA : Hid (TabA w) := hA
  have HT : Hid (TabL w) := hL
  have NI : (N : Int) ≤ 120 := by omega
  have MI : (M : Int) ≤ 120 := by omega
  have HMZ : Hid (ok' = false → M = 0) := MZ
  clear hA hL MZ
  unfold termsV at *
  go_enter Tryd.func3, Tryd.ntmps3
  go_wp2_with fail
  have U0 : Up w ((w.alloc (.cells #[.int .i64 kind, .int .i64 P, .int .i64 r, .int .i64 n, .int .i64 start, .int .i64 rule] 23)).alloc (.cells #[.int .i64 kind', .int .i64 P', .int .i64 r', .int .i64 n', .int .i64 start', .int .i64 rule'] 23)) := ((Up.refl w).alloc _).alloc _
  have U01 : Up (w.alloc (.cells #[.int .i64 kind, .int .i64 P, .int .i64 r, .int .i64 n, .int .i64 start, .int .i64 rule] 23)) ((w.alloc (.cells #[.int .i64 kind, .int .i64 P, .int .i64 r, .int .i64 n, .int .i64 start, .int .i64 rule] 23)).alloc (.cells #[.int .i64 kind', .int .i64 P', .int .i64 r', .int .i64 n', .int .i64 start', .int .i64 rule'] 23)) := (Up.refl _).alloc _
  have TA : Hid (TermsAt kind P r n start rule w.heap.size ((w.alloc (.cells #[.int .i64 kind, .int .i64 P, .int .i64 r, .int .i64 n, .int .i64 start, .int .i64 rule] 23)).alloc (.cells #[.int .i64 kind', .int .i64 P', .int .i64 r', .int .i64 n', .int .i64 start', .int .i64 rule'] 23))) := ⟨cell_in U01 0 _ rfl, cell_in U01 1 _ rfl, cell_in U01 2 _ rfl, cell_in U01 3 _ rfl, cell_in U01 4 _ rfl, cell_in U01 5 _ rfl⟩
  have TB : Hid (TermsAt kind' P' r' n' start' rule' (w.heap.size + 1) ((w.alloc (.cells #[.int .i64 kind, .int .i64 P, .int .i64 r, .int .i64 n, .int .i64 start, .int .i64 rule] 23)).alloc (.cells #[.int .i64 kind', .int .i64 P', .int .i64 r', .int .i64 n', .int .i64 start', .int .i64 rule'] 23))) := ⟨cell_new _ _ _ 0 _ _ rfl (by simp), cell_new _ _ _ 1 _ _ rfl (by simp), cell_new _ _ _ 2 _ _ rfl (by simp), cell_new _ _ _ 3 _ _ rfl (by simp), cell_new _ _ _ 4 _ _ rfl (by simp), cell_new _ _ _ 5 _ _ rfl (by simp)⟩
  have UW : Hid (Up w ((w.alloc (.cells #[.int .i64 kind, .int .i64 P, .int .i64 r, .int .i64 n, .int .i64 start, .int .i64 rule] 23)).alloc (.cells #[.int .i64 kind', .int .i64 P', .int .i64 r', .int .i64 n', .int .i64 start', .int .i64 rule'] 23))) := U0
  have SZ : Hid (((w.alloc (.cells #[.int .i64 kind, .int .i64 P, .int .i64 r, .int .i64 n, .int .i64 start, .int .i64 rule] 23)).alloc (.cells #[.int .i64 kind', .int .i64 P', .int .i64 r', .int .i64 n', .int .i64 start', .int .i64 rule'] 23)).heap.size = w.heap.size + 2) := by show _ = _; simp
  clear U0 U01
  generalize ((w.alloc (.cells #[.int .i64 kind, .int .i64 P, .int .i64 r, .int .i64 n, .int .i64 start, .int .i64 rule] 23)).alloc (.cells #[.int .i64 kind', .int .i64 P', .int .i64 r', .int .i64 n', .int .i64 start', .int .i64 rule'] 23)) = W at *
  generalize hbb : w.heap.size = bb at *
  have HB : Hid (w.heap.size = bb) := hbb
  clear hbb
  obtain ⟨c0, c1, c2, c3, c4, c5⟩ := TA.out
  obtain ⟨e0, e1, e2, e3, e4, e5⟩ := TB.out
  refine (PL.out _ (HA.out.up UW.out) (HT.out.up UW.out)).mono ?_
  rintro e w3 ⟨sa, qa, rfl, RA, U3⟩
  have TA3 : Hid (TermsAt kind P r n start rule bb w3) := TA.out.up U3
  have TB3 : Hid (TermsAt kind' P' r' n' start' rule' (bb + 1) w3) := TB.out.up U3
  have UW3 : Hid (Up w w3) := UW.out.trans U3
  have RA3 : Hid (RowI W.heap.size w3 (.slice sa N qa) rs) := RA
  have SZ3 : Hid (W.heap.size ≤ w3.heap.size) := Below.size U3
  clear c0 c1 c2 c3 c4 c5 e0 e1 e2 e3 e4 e5 TA TB UW RA U3
  obtain ⟨c0, c1, c2, c3, c4, c5⟩ := TA3.out
  obtain ⟨e0, e1, e2, e3, e4, e5⟩ := TB3.out
  go_wp2_with fail
  refine (PU.out _ (HA.out.up UW3.out) (HT.out.up UW3.out)).mono ?_
  rintro e w4 ⟨sb, qb, rfl, RB, U4⟩
  have TA4 : Hid (TermsAt kind P r n start rule bb w4) := TA3.out.up U4
  have UW4 : Hid (Up w w4) := UW3.out.trans U4
  have RA4 : Hid (RowI W.heap.size w4 (.slice sa N qa) rs) := RA3.out.later U4
  have RB4 : Hid (RowI w3.heap.size w4 (.slice sb M qb) rs') := RB
  have SZ4 : Hid (w3.heap.size ≤ w4.heap.size) := Below.size U4
  have NAB := blk_ne RA3.out (Nat.le_refl _) RB
  have HAB : Hid ((Value.slice sa N qa).ownBlock = none ∨ (Value.slice sa N qa).ownBlock ≠ (Value.slice sb M qb).ownBlock) := NAB.1
  have HBA : Hid ((Value.slice sb M qb).ownBlock = none ∨ (Value.slice sb M qb).ownBlock ≠ (Value.slice sa N qa).ownBlock) := NAB.2
  clear c0 c1 c2 c3 c4 c5 e0 e1 e2 e3 e4 e5 TA3 TB3 UW3 RA3 RB U4 NAB PU
  obtain ⟨c0, c1, c2, c3, c4, c5⟩ := TA4.out
  go_wp2_with fail
  refine (PL.out _ (HA.out.up UW4.out) (HT.out.up UW4.out)).mono ?_
  rintro e w5 ⟨sc, qc, rfl, RC, U5⟩
  have TA5 : Hid (TermsAt kind P r n start rule bb w5) := TA4.out.up U5
  have UW5 : Hid (Up w w5) := UW4.out.trans U5
  have RA5 : Hid (RowI W.heap.size w5 (.slice sa N qa) rs) := RA4.out.later U5
  have RB5 : Hid (RowI w3.heap.size w5 (.slice sb M qb) rs') := RB4.out.later U5
  have RC5 : Hid (RowI w4.heap.size w5 (.slice sc N qc) rs) := RC
  have SZ5 : Hid (w4.heap.size ≤ w5.heap.size) := Below.size U5
  have NAC := blk_ne RA4.out (Nat.le_refl _) RC
  have NBC := blk_ne RB4.out (Nat.le_refl _) RC
  have HAC : Hid ((Value.slice sa N qa).ownBlock = none ∨ (Value.slice sa N qa).ownBlock ≠ (Value.slice sc N qc).ownBlock) := NAC.1
  have HCA : Hid ((Value.slice sc N qc).ownBlock = none ∨ (Value.slice sc N qc).ownBlock ≠ (Value.slice sa N qa).ownBlock) := NAC.2
  have HBC : Hid ((Value.slice sb M qb).ownBlock = none ∨ (Value.slice sb M qb).ownBlock ≠ (Value.slice sc N qc).ownBlock) := NBC.1
  have HCB : Hid ((Value.slice sc N qc).ownBlock = none ∨ (Value.slice sc N qc).ownBlock ≠ (Value.slice sb M qb).ownBlock) := NBC.2
  clear c0 c1 c2 c3 c4 c5 TA4 UW4 RA4 RB4 RC U5 NAC NBC
  obtain ⟨c0, c1, c2, c3, c4, c5⟩ := TA5.out
  have IA5 : Hid (InstOk w5 sa rs) := by
    obtain ⟨s, q, hv, I⟩ := RowI.form2 RA5.out
    simp only [Value.slice.injEq] at hv
    obtain ⟨rfl, _, _⟩ := hv
    exact I
  have IC5 : Hid (InstOk w5 sc rs) := by
    obtain ⟨s, q, hv, I⟩ := RowI.form2 RC5.out
    simp only [Value.slice.injEq] at hv
    obtain ⟨rfl, _, _⟩ := hv
    exact I
  go_wp2_with fail
  refine (EA.out _).mono ?_
  rintro e w6 ⟨rfl, hw⟩; rw [hw]; clear hw w6
  go_wp2_with fail
  refine (AL.out _ _ _ _ _ IA5.out IC5.out).mono ?_
  rintro e w6 ⟨rfl, m6, hw⟩; rw [hw]; clear hw w6
  have TA6 : Hid (TermsAt kind P r n start rule bb (w5.drewN m6)) := TA5.out.up (up_drewN (Up.refl _) m6)
  have UW6 : Hid (Up w (w5.drewN m6)) := up_drewN UW5.out m6
  have RA6 : Hid (RowI W.heap.size (w5.drewN m6) (.slice sa N qa) rs) := RA5.out
  have RB6 : Hid (RowI w3.heap.size (w5.drewN m6) (.slice sb M qb) rs') := RB5.out
  have RC6 : Hid (RowI w4.heap.size (w5.drewN m6) (.slice sc N qc) rs) := RC5.out
  have SZ6 : Hid (w4.heap.size ≤ (w5.drewN m6).heap.size) := SZ5.out
  clear c0 c1 c2 c3 c4 c5 TA5 UW5 RA5 RB5 RC5 SZ5 IA5 IC5
  generalize w5.drewN m6 = w6 at *
  have hcA : RowC W.heap.size w6 (.slice sa N qa) N (rs.flatMap instC) := by have := RA6.out; unfold RowI at this; rw [hN] at this; exact this
  have HMB : ok' = true ∨ (ok' = false ∧ ((M : Int) != 0) = false) := by
    cases ok' with
    | true => exact .inl rfl
    | false => exact .inr ⟨rfl, by rw [HMZ.out rfl]; rfl⟩
  clear HMZ
  rcases HMB with rfl | ⟨rfl, hM0⟩
  all_goals
    go_wp2_with (first | (at_builtin; refine wpList_keep rfl (.tmp 99) (.tmp 100) 24 rfl i0 Tryd.underlying24 hi _ hz0 rfl hz1 hz2 W.heap.size N _ _ rfl rfl hcA N1 (one_flat _) ?_; intro v7 w7 hk7 hb7; have hcB : RowC w3.heap.size w7 (.slice sb M qb) M (rs'.flatMap instC) := (by have := RB6.out.later hb7; unfold RowI at this; rw [hM] at this; exact this)) | (at_builtin; refine wpList_keep rfl (.tmp 102) (.tmp 103) 24 rfl i0 Tryd.underlying24 hi _ hz0 rfl hz1 hz2 w3.heap.size M _ _ rfl rfl hcB M1 (one_flat _) ?_; intro v8 w8 hk8 hb8))
    have U8 : Up w6 w8 := Up.trans hb7 hb8
    have S67 : w6.heap.size ≤ w7.heap.size := Below.size hb7
    have z1 := SZ.out
    have z2 := SZ3.out
    have z3 := SZ4.out
    have z4 := SZ6.out
    have z5 := HB.out
    have cA : RowC W.heap.size w6 (.slice sa N qa) N (rs.flatMap instC) := hcA
    have cB : RowC w3.heap.size w6 (.slice sb M qb) M (rs'.flatMap instC) := by have := RB6.out; unfold RowI at this; rw [hM] at this; exact this
    have cC : RowC w4.heap.size w6 (.slice sc N qc) N (rs.flatMap instC) := by have := RC6.out; unfold RowI at this; rw [hN] at this; exact this
    obtain ⟨s7, q7, h7⟩ := RowC.slice hk7
    obtain ⟨s8, q8, h8⟩ := RowC.slice hk8
    subst h7 h8
    have D : Hid (FrD (.slice sa N qa) (.slice sb M qb) (.slice sc N qc) (.slice s7 N q7) (.slice s8 M q8)) := ⟨HAB.out, HAC.out, HBA.out, HBC.out, HCA.out, HCB.out, (blk_ne cA (Nat.le_refl _) hk7).2, (blk_ne cB (Nat.le_refl _) hk7).2, (blk_ne cC (Nat.le_refl _) hk7).2, (blk_ne cA S67 hk8).2, (blk_ne cB S67 hk8).2, (blk_ne cC S67 hk8).2⟩
    have S : Hid (FrS kind P r n start rule bb w N M (rs.flatMap instC) (rs'.flatMap instC) W.heap.size (.slice sa N qa) (.slice sb M qb) (.slice sc N qc) (.slice s7 N q7) (.slice s8 M q8) (rs.flatMap instC) (rs.flatMap instC) w8) := ⟨UW6.out.trans U8, by omega, (by have := Below.size U8; omega), by omega, TA6.out.up U8, cA.up U8, (cB.up U8).low z2, (cC.up U8).low (by omega), (RowC.up hk7 hb8).low (by omega), hk8.low (by omega)⟩
    clear z1 z2 z3 z4 cA cB cC U8 hb7 hb8 hk7 hk8 S67 TA6 UW6 RA6 RB6 RC6 SZ6 SZ SZ3 SZ4 hcA hcB HAB HAC HBA HBC HCA HCB
    have GO : Hid (∀ (k : Nat) (s : Option Addr) (q : Nat) (us : List Value) (d : Int) (w : World), RowC W.heap.size w (.slice s k q) k us → k ≤ 120 → W.heap.size ≤ w.heap.size → Calls Tryd.prog 9 #[.slice s k q, .int .i64 d] w fun e w' => e = .returned (.bool true) ∧ RowC W.heap.size w' (.slice s k q) k us ∧ w.grownBy w' (Value.slice s k q).ownBlock) := fun k s q us d w h hk hb => goneOn_at W.heap.size k s q us d w h hk hb
    go_loopw [13] (fun vi wr => ∃ (k : Nat) (vs : List Value), k ≤ N ∧ vi = .int .i64 (k : Int) ∧ RowC W.heap.size wr (.slice sa N qa) N vs ∧ Hid (∀ i, i < k → vs[i * 4]? = some (.int .i64 (-1))) ∧ Hid (w8.grownBy wr (Value.slice sa N qa).ownBlock)) (fun vi _ => N - (intOf vi).toNat)
    case atStart => exact ⟨0, _, by omega, rfl, S.out.ra, fun i hi => by omega, grownBy_refl _ _⟩
    case round =>
      obtain ⟨k, vs, hk, rfl, hrow, hmk, hgr⟩ := hrel
      by_cases hlt : (k : Int) < (N : Int)
      · obtain ⟨gx, hsx⟩ : ∃ gx, sa = some ⟨gx, 0, none⟩ := by
          rcases hrow.2 with ⟨h1, h2⟩ | ⟨gx, _, _, h1, _⟩
          · omega
          · simp only [Value.slice.injEq] at h1; exact ⟨gx, h1.1⟩
        subst hsx
        have hl := hrow.1
        have f0 := World.ownsRow.frozenAt hrow (k * 4)
        have f1 := World.ownsRow.frozenAt hrow (k * 4 + 1)
        have f2 := World.ownsRow.frozenAt hrow (k * 4 + 2)
        have f3 := World.ownsRow.frozenAt hrow (k * 4 + 3)
        obtain ⟨x0, hx0⟩ : ∃ x, vs[k * 4]? = some x := ⟨_, List.getElem?_eq_getElem (by omega)⟩
        have d0 := (World.ownsRow.cellAt hrow (k * 4) (by omega)).trans hx0
        obtain ⟨x1, hx1⟩ : ∃ x, vs[k * 4 + 1]? = some x := ⟨_, List.getElem?_eq_getElem (by omega)⟩
        have d1 := (World.ownsRow.cellAt hrow (k * 4 + 1) (by omega)).trans hx1
        obtain ⟨x2, hx2⟩ : ∃ x, vs[k * 4 + 2]? = some x := ⟨_, List.getElem?_eq_getElem (by omega)⟩
        have d2 := (World.ownsRow.cellAt hrow (k * 4 + 2) (by omega)).trans hx2
        obtain ⟨x3, hx3⟩ : ∃ x, vs[k * 4 + 3]? = some x := ⟨_, List.getElem?_eq_getElem (by omega)⟩
        have d3 := (World.ownsRow.cellAt hrow (k * 4 + 3) (by omega)).trans hx3
        clear hx0 hx1 hx2 hx3
        have h4 := four_set hrow k (.int .i64 (-1)) (.int .i64 (-2)) (.int .i64 (-3)) (.bool true)
        have HR : Hid (RowC W.heap.size ((((wr.setCell ⟨gx, k * 4, none⟩ (.int .i64 (-1))).setCell ⟨gx, k * 4 + 1, none⟩ (.int .i64 (-2))).setCell ⟨gx, k * 4 + 2, none⟩ (.int .i64 (-3))).setCell ⟨gx, k * 4 + 3, none⟩ (.bool true)) (.slice (some ⟨gx, 0, none⟩) N qa) N (set4 vs k (.int .i64 (-1)) (.int .i64 (-2)) (.int .i64 (-3)) (.bool true))) := h4.1
        have HG : Hid (w8.grownBy ((((wr.setCell ⟨gx, k * 4, none⟩ (.int .i64 (-1))).setCell ⟨gx, k * 4 + 1, none⟩ (.int .i64 (-2))).setCell ⟨gx, k * 4 + 2, none⟩ (.int .i64 (-3))).setCell ⟨gx, k * 4 + 3, none⟩ (.bool true)) (some gx)) := grownBy_trans hgr.out h4.2
        have HM : Hid (∀ i, i < k + 1 → (set4 vs k (.int .i64 (-1)) (.int .i64 (-2)) (.int .i64 (-3)) (.bool true))[i * 4]? = some (.int .i64 (-1))) := mark_set vs k _ _ _ _ (by omega) hmk.out
        clear hrow h4
        go_wp2_with fail
        go_roundw
        case rel => exact ⟨k + 1, _, by omega, by go_num, HR.out, HM, HG⟩
        case measure => simp [intOf]; omega
      · have ek : N = k := by omega
        subst ek
        have SA : Hid (FrS kind P r n start rule bb w N M (rs.flatMap instC) (rs'.flatMap instC) W.heap.size (.slice sa N qa) (.slice sb M qb) (.slice sc N qc) (.slice s7 N q7) (.slice s8 M q8) vs (rs.flatMap instC) wr) := S.out.a D.out hrow hgr.out
        have MA : Hid (∀ i, i < N → vs[i * 4]? = some (.int .i64 (-1))) := hmk
        clear hrow hmk hgr S hlt hk
        generalize wr = wx at *
        generalize vs = va at *
        go_wp2_with fail
        go_loopw [14] (fun vi wr => ∃ (k : Nat) (vs : List Value), k ≤ N ∧ vi = .int .i64 (k : Int) ∧ RowC W.heap.size wr (.slice sc N qc) N vs ∧ Hid (∀ i, i < k → vs[i * 4]? = some (.int .i64 (-5))) ∧ Hid (wx.grownBy wr (Value.slice sc N qc).ownBlock)) (fun vi _ => N - (intOf vi).toNat)
        case atStart => exact ⟨0, _, by omega, rfl, SA.out.rc, fun i hi => by omega, grownBy_refl _ _⟩
        case round =>
          obtain ⟨k, vs, hk, rfl, hrow, hmk, hgr⟩ := hrel
          by_cases hlt : (k : Int) < (N : Int)
          · obtain ⟨gx, hsx⟩ : ∃ gx, sc = some ⟨gx, 0, none⟩ := by
              rcases hrow.2 with ⟨h1, h2⟩ | ⟨gx, _, _, h1, _⟩
              · omega
              · simp only [Value.slice.injEq] at h1; exact ⟨gx, h1.1⟩
            subst hsx
            have hl := hrow.1
            have f0 := World.ownsRow.frozenAt hrow (k * 4)
            have f1 := World.ownsRow.frozenAt hrow (k * 4 + 1)
            have f2 := World.ownsRow.frozenAt hrow (k * 4 + 2)
            have f3 := World.ownsRow.frozenAt hrow (k * 4 + 3)
            obtain ⟨x0, hx0⟩ : ∃ x, vs[k * 4]? = some x := ⟨_, List.getElem?_eq_getElem (by omega)⟩
            have d0 := (World.ownsRow.cellAt hrow (k * 4) (by omega)).trans hx0
            obtain ⟨x1, hx1⟩ : ∃ x, vs[k * 4 + 1]? = some x := ⟨_, List.getElem?_eq_getElem (by omega)⟩
            have d1 := (World.ownsRow.cellAt hrow (k * 4 + 1) (by omega)).trans hx1
            obtain ⟨x2, hx2⟩ : ∃ x, vs[k * 4 + 2]? = some x := ⟨_, List.getElem?_eq_getElem (by omega)⟩
            have d2 := (World.ownsRow.cellAt hrow (k * 4 + 2) (by omega)).trans hx2
            obtain ⟨x3, hx3⟩ : ∃ x, vs[k * 4 + 3]? = some x := ⟨_, List.getElem?_eq_getElem (by omega)⟩
            have d3 := (World.ownsRow.cellAt hrow (k * 4 + 3) (by omega)).trans hx3
            clear hx0 hx1 hx2 hx3
            have h4 := four_set hrow k (.int .i64 (-5)) (.int .i64 (-6)) (.int .i64 (-7)) (.bool true)
            have HR : Hid (RowC W.heap.size ((((wr.setCell ⟨gx, k * 4, none⟩ (.int .i64 (-5))).setCell ⟨gx, k * 4 + 1, none⟩ (.int .i64 (-6))).setCell ⟨gx, k * 4 + 2, none⟩ (.int .i64 (-7))).setCell ⟨gx, k * 4 + 3, none⟩ (.bool true)) (.slice (some ⟨gx, 0, none⟩) N qc) N (set4 vs k (.int .i64 (-5)) (.int .i64 (-6)) (.int .i64 (-7)) (.bool true))) := h4.1
            have HG : Hid (wx.grownBy ((((wr.setCell ⟨gx, k * 4, none⟩ (.int .i64 (-5))).setCell ⟨gx, k * 4 + 1, none⟩ (.int .i64 (-6))).setCell ⟨gx, k * 4 + 2, none⟩ (.int .i64 (-7))).setCell ⟨gx, k * 4 + 3, none⟩ (.bool true)) (some gx)) := grownBy_trans hgr.out h4.2
            have HM : Hid (∀ i, i < k + 1 → (set4 vs k (.int .i64 (-5)) (.int .i64 (-6)) (.int .i64 (-7)) (.bool true))[i * 4]? = some (.int .i64 (-5))) := mark_set vs k _ _ _ _ (by omega) hmk.out
            clear hrow h4
            go_wp2_with fail
            go_roundw
            case rel => exact ⟨k + 1, _, by omega, by go_num, HR.out, HM, HG⟩
            case measure => simp [intOf]; omega
          · have ek : N = k := by omega
            subst ek
            have SC : Hid (FrS kind P r n start rule bb w N M (rs.flatMap instC) (rs'.flatMap instC) W.heap.size (.slice sa N qa) (.slice sb M qb) (.slice sc N qc) (.slice s7 N q7) (.slice s8 M q8) va vs wr) := SA.out.c D.out hrow hgr.out
            have MC : Hid (∀ i, i < N → vs[i * 4]? = some (.int .i64 (-5))) := hmk
            clear hrow hmk hgr SA hlt hk
            generalize wr = wy at *
            generalize vs = vc at *
            go_wp2_with fail
            refine (AL'.out _ _ _ _ _ (RowC.inst hM SC.out.rb) (RowC.inst hM SC.out.kb)).mono ?_
            rintro e w9 ⟨rfl, m9, hw⟩; rw [hw]; clear hw w9
            have S9 : Hid (FrS kind P r n start rule bb w N M (rs.flatMap instC) (rs'.flatMap instC) W.heap.size (.slice sa N qa) (.slice sb M qb) (.slice sc N qc) (.slice s7 N q7) (.slice s8 M q8) va vc (wy.drewN m9)) := SC.out.dr m9
            clear SC
            generalize wy.drewN m9 = w9 at *
            go_wp2_with fail
            refine (GO.out _ _ _ _ _ _ S9.out.ra N1 S9.out.sz).mono ?_
            rintro e w10 ⟨rfl, r10, g10⟩
            have S10 : Hid (FrS kind P r n start rule bb w N M (rs.flatMap instC) (rs'.flatMap instC) W.heap.size (.slice sa N qa) (.slice sb M qb) (.slice sc N qc) (.slice s7 N q7) (.slice s8 M q8) va vc w10) := S9.out.a D.out r10 g10
            clear S9 r10 g10
            go_wp2_with fail
            refine (GO.out _ _ _ _ _ _ S10.out.rc N1 S10.out.sz).mono ?_
            rintro e w11 ⟨rfl, r11, g11⟩
            have S11 : Hid (FrS kind P r n start rule bb w N M (rs.flatMap instC) (rs'.flatMap instC) W.heap.size (.slice sa N qa) (.slice sb M qb) (.slice sc N qc) (.slice s7 N q7) (.slice s8 M q8) va vc w11) := S10.out.c D.out r11 g11
            clear S10 r11 g11
            go_wp2_with fail
            refine (GO.out _ _ _ _ _ _ S11.out.rb M1 S11.out.sz).mono ?_
            rintro e w12 ⟨rfl, r12, g12⟩
            have S12 : Hid (FrS kind P r n start rule bb w N M (rs.flatMap instC) (rs'.flatMap instC) W.heap.size (.slice sa N qa) (.slice sb M qb) (.slice sc N qc) (.slice s7 N q7) (.slice s8 M q8) va vc w12) := S11.out.b D.out r12 g12
            clear S11 r12 g12
            go_wp2_with fail
            refine (AL'.out _ _ _ _ _ (RowC.inst hM S12.out.rb) (RowC.inst hM S12.out.kb)).mono ?_
            rintro e w13 ⟨rfl, m13, hw⟩; rw [hw]; clear hw w13
            have S13 : Hid (FrS kind P r n start rule bb w N M (rs.flatMap instC) (rs'.flatMap instC) W.heap.size (.slice sa N qa) (.slice sb M qb) (.slice sc N qc) (.slice s7 N q7) (.slice s8 M q8) va vc (w12.drewN m13)) := S12.out.dr m13
            clear S12 GO AL'
            generalize w12.drewN m13 = w13 at *
            go_wp2_with fail
            go_loopw [15] (fun vi wr => ∃ (k : Nat), k ≤ N ∧ vi = .int .i64 (k : Int) ∧ ∃ m, wr = w13.drewN m) (fun vi _ => N - (intOf vi).toNat)
            case atStart => exact ⟨0, by omega, rfl, 0, rfl⟩
            case round =>
              obtain ⟨k, hk, rfl, m, rfl⟩ := hrel
              by_cases hlt : (k : Int) < (N : Int)
              · have ra := S13.out.ra
                have rc := S13.out.rc
                have la := ra.1
                have lc := rc.1
                obtain ⟨gx, hsx⟩ : ∃ gx, sa = some ⟨gx, 0, none⟩ := by
                  rcases ra.2 with ⟨h1, h2⟩ | ⟨gx, _, _, h1, _⟩
                  · omega
                  · simp only [Value.slice.injEq] at h1; exact ⟨gx, h1.1⟩
                obtain ⟨gy, hsy⟩ : ∃ gy, sc = some ⟨gy, 0, none⟩ := by
                  rcases rc.2 with ⟨h1, h2⟩ | ⟨gy, _, _, h1, _⟩
                  · omega
                  · simp only [Value.slice.injEq] at h1; exact ⟨gy, h1.1⟩
                subst hsx hsy
                have da : (w13.drewN m).cell? ⟨gx, k * 4, none⟩ = some (.int .i64 (-1)) := (World.ownsRow.cellAt ra (k * 4) (by omega)).trans (MA.out k (by omega))
                have dc : (w13.drewN m).cell? ⟨gy, k * 4, none⟩ = some (.int .i64 (-5)) := (World.ownsRow.cellAt rc (k * 4) (by omega)).trans (MC.out k (by omega))
                clear ra rc la lc
                go_wp2_with fail
                go_roundw
                case rel => exact ⟨k + 1, by omega, by go_num, m, rfl⟩
                case measure => simp [intOf]; omega
              · have ek : N = k := by omega
                subst ek
                have S14 : Hid (FrS kind P r n start rule bb w N M (rs.flatMap instC) (rs'.flatMap instC) W.heap.size (.slice sa N qa) (.slice sb M qb) (.slice sc N qc) (.slice s7 N q7) (.slice s8 M q8) va vc (w13.drewN m)) := S13.out.dr m
                clear S13 MA MC hlt hk
                generalize w13.drewN m = w14 at *
                obtain ⟨c0, c1, c2, c3, c4, c5⟩ := S14.out.ta
                go_wp2_with fail
                refine (PL.out _ (HA.out.up S14.out.up) (HT.out.up S14.out.up)).mono ?_
                rintro e w15 ⟨sd, qd, rfl, RD, U15⟩
                have ID : Hid (InstOk w15 sd rs) := RowC.inst hN (by have := RD; unfold RowI at this; rw [hN] at this; exact this)
                have IK : Hid (InstOk w15 s7 rs) := RowC.inst hN (S14.out.ka.up U15)
                have UE : Hid (Up w w15) := S14.out.up.trans U15
                clear c0 c1 c2 c3 c4 c5 RD U15 S14
                go_wp2_with fail
                refine (AL.out _ _ _ _ _ ID.out IK.out).mono ?_
                rintro e w16 ⟨rfl, m16, hw⟩; rw [hw]; clear hw w16
                go_wp2_with fail
                go_ret
                exact ⟨rfl, up_drewN UE.out m16⟩
end Go.Proofs.YtkabfdajpilomabDoor
