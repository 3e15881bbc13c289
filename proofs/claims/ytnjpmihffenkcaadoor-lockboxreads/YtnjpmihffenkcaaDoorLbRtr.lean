/-
  Ours: slices.Equal of numbers; lockbox.readTrailer.
-/
import Derived.Test.YtnjpmihffenkcaaDoorLbRdd
namespace Go.Proofs.YtnjpmihffenkcaaDoor
open Go.RowKit LbM LbF
set_option maxRecDepth 20000 in
set_option maxHeartbeats 4000000 in
theorem eqN_at (ns ms : List Nat) (L : Nat) (hn : ns.length = L) (hm : ms.length = L) (hL : L ≤ 16) (G H c d : Nat) (w : World)
    (hG : ∀ (i x : Nat), ns[i]? = some x → w.cell? ⟨G, i, none⟩ = some (.int .i64 (x : Int))) (hH : ∀ (i x : Nat), ms[i]? = some x → w.cell? ⟨H, i, none⟩ = some (.int .i64 (x : Int))) :
    Calls Tryd.prog 64 #[.slice (some ⟨G, 0, none⟩) L c, .slice (some ⟨H, 0, none⟩) L d] w fun e w' => e = .returned (.bool (decide (ns = ms))) ∧ Below w.heap.size w w' := by
  obtain ⟨r, hr⟩ : ∃ r, decide (ns = ms) = r := ⟨_, rfl⟩
  have RN : Hid (ns ≠ ms → false = r) := fun h => by rw [← hr]; exact (decide_eq_false h).symm
  have RY : Hid (ns = ms → true = r) := fun h => by rw [← hr]; exact (decide_eq_true h).symm
  rw [hr]
  clear hr
  have CG : Hid (∀ w', Below w.heap.size w w' → ∀ i, i < L → ∃ x y, ns[i]? = some x ∧ ms[i]? = some y ∧ w'.cell? ⟨G, i, none⟩ = some (.int .i64 (x : Int)) ∧ w'.cell? ⟨H, i, none⟩ = some (.int .i64 (y : Int))) := fun w' q i hi => by
    have h1 : ns[i]? = some (ns[i]'(by omega)) := List.getElem?_eq_getElem (by omega)
    have h2 : ms[i]? = some (ms[i]'(by omega)) := List.getElem?_eq_getElem (by omega)
    exact ⟨_, _, h1, h2, cell_up2 q (hG i _ h1), cell_up2 q (hH i _ h2)⟩
  have EQ : Hid (ns.take L = ms.take L → ns = ms) := fun h => by rwa [← hn, List.take_length, hn, ← hm, List.take_length] at h
  clear hG hH hn hm
  go_enter Tryd.func64, Tryd.ntmps64
  go_wp2_with fail
  go_loopw [13] (fun vk wr => ∃ (i : Nat), vk = .int .i64 (i : Int) ∧ i ≤ L ∧ Hid (Below w.heap.size w wr ∧ ns.take i = ms.take i)) (fun vk _ => L - (intOf vk).toNat)
  case atStart => exact ⟨0, rfl, by omega, Below.refl _ _, by simp⟩
  case round =>
    obtain ⟨i, rfl, hik, HR⟩ := hrel
    by_cases hlt : (i : Int) < (L : Int)
    · obtain ⟨x, y, hx, hy, cx, cy⟩ := CG.out wr HR.out.1 i (by omega)
      by_cases hxy : x = y
      · have e0 : ((x : Int) != (y : Int)) = false := by rw [hxy]; simp
        have HN : Hid (ns.take (i + 1) = ms.take (i + 1)) := by show _ = _; rw [List.take_add_one, List.take_add_one, hx, hy, HR.out.2, hxy]
        clear hx hy hxy
        go_upto_region 6 with fail
        go_quiet (fail)
        have R5 : Hid (Below w.heap.size w (wr.drewN nq) ∧ ns.take (i + 1) = ms.take (i + 1)) := ⟨below_drewN HR.out.1 nq, HN.out⟩
        clear HR HN
        go_wp2_with fail
        go_roundw
        case rel => exact ⟨i + 1, by go_num, by omega, R5⟩
        case measure => simp [intOf]; omega
      · have e0 : ((x : Int) != (y : Int)) = true := by simp; omega
        have HN : Hid (ns ≠ ms) := fun e => hxy (by rw [e] at hx; rw [hx] at hy; injection hy)
        clear hx hy hxy
        go_upto_region 6 with fail
        go_quiet (fail)
        go_wp2_with fail
        go_ret
        exact ⟨by rw [← RN.out HN.out]; rfl, below_drewN HR.out.1 nq⟩
    · obtain rfl : i = L := by omega
      go_wp2_with fail
      go_ret
      exact ⟨by rw [← RY.out (EQ.out HR.out.2)]; rfl, HR.out.1⟩
/-- What readTrailer answers. -/
def TrlAns (its : List It) (bs : List Nat) (w : World) (e : Ending) (w' : World) : Prop := Below w.heap.size w w' ∧ match rdTrail its bs with
  | .ok _ => e = .returned .nilIface
  | .error (c, i) => e = .returned (fltV c i)
set_option maxRecDepth 20000 in
set_option maxHeartbeats 4000000 in
theorem readTrailer_at (its : List It) (bs : List Nat) (v va : Value) (w : World) (hw : FormW w) (hl : bs.length ≤ 1000000) (h : RdB w v bs) (h8 : ∀ x ∈ bs, x < 256) (hi9 : its.length ≤ 9999) (ok : ∀ x ∈ its, x.Ok) (hI : RdI w va its) : Calls Tryd.prog 45 #[v, va] w (TrlAns its bs w) := by
  have RL : Hid (Calls Tryd.prog 60 #[v, .int .i64 2] w (LinAns 2 bs v w)) := readLine_at 2 (by decide) bs v w hw hl h h8
  have TT : Hid (∀ w', Below w.heap.size w w' → Calls Tryd.prog 37 #[va] w' (NumAns w' (totN its))) := fun w' q => totals_at its va w' hi9 ok (hI.later q)
  have RB : Hid (RdB w v bs) := h
  generalize hans : TrlAns its bs w = ANS
  have AN0 : Hid (∀ w' c i, Below w.heap.size w w' → rdTrail its bs = .error (c, i) → ANS (.returned (fltV c i)) w') := fun w' c i b hn => by
    rw [← hans]
    unfold TrlAns
    rw [hn]
    exact ⟨b, rfl⟩
  have AN1 : Hid (∀ w', Below w.heap.size w w' → rdTrail its bs = .ok () → ANS (.returned .nilIface) w') := fun w' b hn => by
    rw [← hans]
    unfold TrlAns
    rw [hn]
    exact ⟨b, rfl⟩
  obtain ⟨ao, cap, rfl, hcap, hno, -⟩ := hI
  obtain ⟨L, hL⟩ : ∃ L, its.length = L := ⟨_, rfl⟩
  have HL : Hid (its.length = L) := hL
  rw [hL] at TT hi9 ⊢
  have hw1 : IntKind.i64.wrap ((L : Int) + 1) = (L : Int) + 1 := by simp [IntKind.wrap, IntKind.bits, IntKind.signed]; omega
  have hw2 : IntKind.i64.wrap ((L : Int) + 1 + 1) = (L : Int) + 1 + 1 := by simp [IntKind.wrap, IntKind.bits, IntKind.signed]; omega
  clear h hw hl h8 hans hL hi9 ok hcap hno
  go_enter Tryd.func45, Tryd.ntmps45
  go_wp2_with fail
  refine RL.out.mono ?_
  rintro e w2 ⟨b2, hm⟩
  clear RL
  cases hq : rdL 2 bs with
  | none =>
    rw [hq] at hm
    subst hm
    have NO : Hid (rdTrail its bs = .error (200, L + 1)) := by show _ = _; unfold rdTrail; rw [hq, ← HL.out]
    have B2 : Hid (Below w.heap.size w w2) := b2
    clear hq b2
    go_wp2_with fail
    exact AN0.out _ 200 (L + 1) B2.out NO.out
  | some p =>
    obtain ⟨ns, r⟩ := p
    rw [hq] at hm
    obtain ⟨vn, vr, rfl, rown, rrd⟩ := hm
    have hfit := (rdL_iff.1 hq).2
    have h3 : ns.length = 3 := (fits_at hfit).1.symm
    have HQ : Hid (rdTrail its bs = if ns ≠ totN its then .error (203, L + 1) else if r ≠ [] then .error (200, L + 2) else .ok ()) := by show _ = _; unfold rdTrail; rw [hq, ← HL.out]
    obtain ⟨g, cp, rfl, hbg, hcell⟩ := rowL_at rown (by omega)
    obtain ⟨ar, cr, rfl, -, -⟩ := (rrd w RB.out).len
    rw [h3]
    have S2 : Hid (Below w.heap.size w w2 ∧ (∀ (i x : Nat), ns[i]? = some x → w2.cell? ⟨g, i, none⟩ = some (.int .i64 (x : Int))) ∧ ns.length = 3) := ⟨b2, hcell, h3⟩
    have hrl : (r.map bv).length = r.length := List.length_map _
    rw [hrl]
    clear rown rrd hfit h3 hq hcell hbg b2 hrl
    obtain ⟨R, hR⟩ : ∃ R, r.length = R := ⟨_, rfl⟩
    have HRR : Hid (r.length = R) := hR
    rw [hR]
    clear hR
    go_wp2_with fail
    refine (TT.out w2 S2.out.1).mono ?_
    rintro e w3 ⟨N, rfl, bN, b3, hN⟩
    have S3 : Hid (Below w.heap.size w w3 ∧ (∀ (i x : Nat), ns[i]? = some x → w3.cell? ⟨g, i, none⟩ = some (.int .i64 (x : Int))) ∧ (∀ (i x : Nat), (totN its)[i]? = some x → w3.cell? ⟨N, i, none⟩ = some (.int .i64 (x : Int)))) := ⟨below_trans S2.out.1 b3, fun i x hx => cell_up2 b3 (S2.out.2.1 i x hx), fun i x hx => bN.cell i _ (by simp [nvL, iv, hx])⟩
    clear bN b3 hN
    go_wp2_with fail
    refine (eqN_at ns (totN its) 3 S2.out.2.2 rfl (by omega) g N cp 3 w3 S3.out.2.1 S3.out.2.2).mono ?_
    rintro e w4 ⟨rfl, b4⟩
    have S4 : Hid (Below w.heap.size w w4) := below_trans S3.out.1 b4
    clear b4 S3 S2
    by_cases hne : ns = totN its
    · rw [decide_eq_true hne]
      by_cases hr0 : R = 0
      · have YES : Hid (rdTrail its bs = .ok ()) := by show _ = _; rw [HQ.out, if_neg (by simpa using hne), if_neg (by have := HRR.out; simp; exact List.eq_nil_of_length_eq_zero (by omega))]
        have e0 : decide (0 < (R : Int)) = false := by simp; omega
        clear hne
        subst hr0
        go_wp2_with fail
        exact AN1.out _ S4.out YES.out
      · have NO : Hid (rdTrail its bs = .error (200, L + 2)) := by show _ = _; rw [HQ.out, if_neg (by simpa using hne), if_pos (by intro e; have := HRR.out; rw [e] at this; exact hr0 this.symm)]
        have e0 : 0 < (R : Int) := by omega
        clear hne hr0
        go_wp2_with fail
        exact AN0.out _ 200 (L + 2) S4.out NO.out
    · rw [decide_eq_false hne]
      have NO : Hid (rdTrail its bs = .error (203, L + 1)) := by show _ = _; rw [HQ.out, if_pos hne]
      clear hne
      go_wp2_with fail
      exact AN0.out _ 203 (L + 1) S4.out NO.out
end Go.Proofs.YtnjpmihffenkcaaDoor
