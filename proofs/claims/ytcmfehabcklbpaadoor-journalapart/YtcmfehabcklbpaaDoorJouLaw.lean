/-
  Ours: the statements' helpers same, sameList, copied, fits; a script that came in (gen_joulaw.py).
-/
import Derived.Test.YtcmfehabcklbpaaDoorJouOk
import Derived.Test.YtcmfehabcklbpaaDoorFrmLaw2
import Derived.Deep.QuietTactic
import Derived.BigQuiet
namespace Go.Proofs.YtcmfehabcklbpaaDoor
open Go.RowKit JM

set_option maxHeartbeats 2000000 in
theorem jsame_at (xs ys : List Nat) (va vb : Value) (w : World) (hl : xs.length ≤ 140737488355328) (h : RdB w va xs) (h' : RdB w vb ys) :
    Calls Tryd.prog 17 #[va, vb] w fun e w' => e = .returned (.bool (decide (xs = ys))) ∧ ∃ n, w' = w.drewN n := by
  obtain ⟨ao, cap, rfl, hc, hn, H⟩ := h
  obtain ⟨ao', cap', rfl, hc', hn', H'⟩ := h'
  simp only [List.length_map] at *
  obtain ⟨L, hL⟩ : ∃ L, xs.length = L := ⟨_, rfl⟩
  obtain ⟨L', hL'⟩ : ∃ L, ys.length = L := ⟨_, rfl⟩
  have HH : Hid (∀ i (h : i < L), ∃ g o, ao = some ⟨g, o, none⟩ ∧ w.cell? ⟨g, o + i, none⟩ = some (.int .u8 (xs.getD i 0 : Nat))) := fun i hi => by
    obtain ⟨g, o, e1, _, e2⟩ := H i (by omega)
    refine ⟨g, o, e1, ?_⟩
    rw [e2, List.getElem_map, List.getD_eq_getElem?_getD, List.getElem?_eq_getElem (by omega)]; rfl
  have HH' : Hid (∀ i (h : i < L'), ∃ g o, ao' = some ⟨g, o, none⟩ ∧ w.cell? ⟨g, o + i, none⟩ = some (.int .u8 (ys.getD i 0 : Nat))) := fun i hi => by
    obtain ⟨g, o, e1, _, e2⟩ := H' i (by omega)
    refine ⟨g, o, e1, ?_⟩
    rw [e2, List.getElem_map, List.getD_eq_getElem?_getD, List.getElem?_eq_getElem (by omega)]; rfl
  have HL : Hid (xs.length = L) := hL
  have HL' : Hid (ys.length = L') := hL'
  rw [hL] at hl
  rw [hL, hL']
  clear H H' hL hL' hc hc' hn hn'
  by_cases hne : (L : Int) = (L' : Int)
  · obtain rfl : L = L' := by omega
    have e0 : ((L : Int) != (L : Int)) = false := by simp
    clear hne
    go_enter Tryd.func17, Tryd.ntmps17
    go_wp2_with fail
    go_loopw [5] (fun vk wr => ∃ (m k : Nat), wr = w.drewN m ∧ vk = .int .i64 (k : Int) ∧ k ≤ L ∧ Hid (∀ j, j < k → xs.getD j 0 = ys.getD j 0)) (fun vk _ => L - (intOf vk).toNat)
    case atStart => exact ⟨0, 0, rfl, rfl, by omega, fun j hj => by omega⟩
    case round =>
      obtain ⟨m, k, rfl, rfl, hk, EQ⟩ := hrel
      by_cases hlt : (k : Int) < (L : Int)
      · obtain ⟨g, off, rfl, c0⟩ := HH.out k (by omega)
        obtain ⟨g', off', rfl, d0⟩ := HH'.out k (by omega)
        by_cases ex : ((xs.getD k 0 : Nat) : Int) = ((ys.getD k 0 : Nat) : Int)
        · have EX : Hid (xs.getD k 0 = ys.getD k 0) := Int.ofNat.inj ex
          rw [← ex] at d0
          clear ex
          generalize ((xs.getD k 0 : Nat) : Int) = x at *
          have e1 : (x != x) = false := by simp
          go_wp2_with fail
          go_quiet (fail)
          go_wp2_with fail
          go_roundw
          case rel =>
            refine ⟨m + nq, k + 1, by simp, by go_num, by omega, fun j hj => ?_⟩
            by_cases e : j = k
            · subst e; exact EX.out
            · exact EQ.out j (by omega)
          case measure => simp [intOf]; omega
        · have EX : Hid (¬ xs.getD k 0 = ys.getD k 0) := fun e => ex (by rw [e])
          have e1 : (((xs.getD k 0 : Nat) : Int) != ((ys.getD k 0 : Nat) : Int)) = true := bne_iff_ne.2 ex
          clear ex
          generalize ((xs.getD k 0 : Nat) : Int) = x at *
          generalize ((ys.getD k 0 : Nat) : Int) = y at *
          go_wp2_with fail
          go_quiet (fail)
          go_wp2_with fail
          go_ret
          refine ⟨?_, m + nq, by simp⟩
          rw [decide_eq_false (fun e => EX.out (by rw [e]))]; rfl
      · obtain rfl : k = L := by omega
        go_wp2_with fail
        go_ret
        refine ⟨?_, m, rfl⟩
        rw [decide_eq_true]; rfl
        apply List.ext_getElem (by rw [HL.out, HL'.out])
        intro i h1 h2
        have := EQ.out i (by have := HL.out; omega)
        simpa [List.getD_eq_getElem?_getD, List.getElem?_eq_getElem h1, List.getElem?_eq_getElem h2] using this
  · have e0 : ((L : Int) != (L' : Int)) = true := by simpa using hne
    go_enter Tryd.func17, Tryd.ntmps17
    go_wp2_with fail
    go_ret
    refine ⟨?_, 0, rfl⟩
    rw [decide_eq_false (fun e => hne (by rw [← HL.out, ← HL'.out, e]))]; rfl


set_option maxRecDepth 20000 in
set_option maxHeartbeats 1000000 in
theorem jcopied_at (bs : List Nat) (v : Value) (w : World) (hl : bs.length ≤ 1000000000000) (h : RdB w v bs) : Calls Tryd.prog 10 #[v] w (NewB w bs) := by
  obtain ⟨i0, hi, hz0, hz1, hz2⟩ := info_parts infoB
  have l1 : ([] : List Value).length + (bs.map bv).length ≤ maxLen := by simp only [List.length_map, List.length_nil]; unfold maxLen; omega
  have l2 : (([] : List Value).length + (bs.map bv).length) * 1 ≤ 140737488355328 := by simp only [List.length_map, List.length_nil]; omega
  have one := one_bv bs
  go_enter Tryd.func10, Tryd.ntmps10
  go_wp2_with (at_builtin; refine wpList_catV rfl (.tmp 4) (.tmp 5) 22 rfl 5 i0 (.int .u8 0) 1 underB hi hz0 hz1 hz2 rfl w.heap.size _ _ _ _ one rfl (RowV.nil _ _ _) (Nat.le_refl _) rfl h l1 l2 ?_; intro v3 w3 r3 g3)
  go_ret
  exact ⟨v3, rfl, by simpa [RowB] using r3, below_none g3⟩


set_option maxRecDepth 40000 in
set_option maxHeartbeats 1000000 in
theorem sameList_at (xs ys : List (List Nat)) (va vb : Value) (w : World) (hn : xs.length ≤ 1000000000) (hl : ∀ x ∈ xs, x.length ≤ 1000000000000) (h : RdR w va xs) (h' : RdR w vb ys) :
    Calls Tryd.prog 18 #[va, vb] w fun e w' => e = .returned (.bool (decide (xs = ys))) ∧ ∃ n, w' = w.drewN n := by
  obtain ⟨ao, cap, rfl, hcap⟩ := h.len
  obtain ⟨ao', cap', rfl, hcap'⟩ := h'.len
  have HH : Hid (∀ i, i < xs.length → ∃ g o a' c', ao = some ⟨g, o, none⟩ ∧ w.cell? ⟨g, o + i, none⟩ = some (.slice a' (xs.getD i []).length c') ∧ RdB w (.slice a' (xs.getD i []).length c') (xs.getD i [])) := h.at.2.2
  have HH' : Hid (∀ i, i < ys.length → ∃ g o a' c', ao' = some ⟨g, o, none⟩ ∧ w.cell? ⟨g, o + i, none⟩ = some (.slice a' (ys.getD i []).length c') ∧ RdB w (.slice a' (ys.getD i []).length c') (ys.getD i [])) := h'.at.2.2
  have HL : Hid (∀ i, (xs.getD i []).length ≤ 1000000000000) := fun i => by
    rw [List.getD_eq_getElem?_getD]
    cases e : xs[i]? with
    | none => simp
    | some y => exact hl y (List.mem_of_getElem? e)
  have EQL : Hid (xs.length = ys.length → (∀ i, i < xs.length → xs.getD i [] = ys.getD i []) → xs = ys) := fun e he => by
    apply List.ext_getElem e
    intro i h1 h2
    have := he i h1
    simpa [List.getD_eq_getElem?_getD, List.getElem?_eq_getElem h1, List.getElem?_eq_getElem h2] using this
  have NEL : Hid (xs.length ≠ ys.length → decide (xs = ys) = false) := fun h => decide_eq_false (fun e => h (by rw [e]))
  have NEI : Hid (∀ i, xs.getD i [] ≠ ys.getD i [] → decide (xs = ys) = false) := fun i h => decide_eq_false (fun e => h (by rw [e]))
  clear h h' hl
  obtain ⟨D, hD⟩ : ∃ D, decide (xs = ys) = D := ⟨_, rfl⟩
  have YES : Hid (xs = ys → D = true) := fun e => by rw [← hD]; exact decide_eq_true e
  rw [hD] at NEL NEI ⊢
  clear hD
  generalize xs.length = L at *
  generalize ys.length = L' at *
  by_cases hne : L = L'
  · subst hne
    have e0 : ((L : Int) != (L : Int)) = false := by simp
    go_enter Tryd.func18, Tryd.ntmps18
    go_wp2_with fail
    go_loopw [5] (fun vk wr => ∃ (m k : Nat), wr = w.drewN m ∧ vk = .int .i64 (k : Int) ∧ k ≤ L ∧ Hid (∀ j, j < k → xs.getD j [] = ys.getD j [])) (fun vk _ => L - (intOf vk).toNat)
    case atStart => exact ⟨0, 0, rfl, rfl, by omega, fun j hj => by omega⟩
    case round =>
      obtain ⟨m, k, hw0, rfl, hk, EQ⟩ := hrel
      have HW : Hid (wr = w.drewN m) := hw0
      by_cases hlt : (k : Int) < (L : Int)
      · obtain ⟨g, o, a1, c1, rfl, d1, r1⟩ := HH.out k (by omega)
        obtain ⟨g', o', a2, c2, rfl, d2, r2⟩ := HH'.out k (by omega)
        have hx := HL.out k
        have NK := NEI.out k
        have ST : Hid (xs.getD k [] = ys.getD k [] → ∀ j, j < k + 1 → xs.getD j [] = ys.getD j []) := fun e j hj => by
          by_cases e' : j = k
          · subst e'; exact e
          · exact EQ.out j (by omega)
        generalize xs.getD k [] = x at *
        generalize ys.getD k [] = y at *
        have q1 : RdB wr (.slice a1 x.length c1) x := by rw [hw0]; exact Rd.drewN r1 m
        have q2 : RdB wr (.slice a2 y.length c2) y := by rw [hw0]; exact Rd.drewN r2 m
        have f1 : wr.cell? ⟨g, o + k, none⟩ = some (.slice a1 x.length c1) := by rw [hw0]; exact d1
        have f2 : wr.cell? ⟨g', o' + k, none⟩ = some (.slice a2 y.length c2) := by rw [hw0]; exact d2
        by_cases ex : x = y
        · have SM : Hid (∀ n, Calls Tryd.prog 17 #[.slice a1 x.length c1, .slice a2 y.length c2] (wr.drewN n) fun e w' => e = .returned (.bool true) ∧ ∃ q, w' = (wr.drewN n).drewN q) := fun n => (jsame_at x y _ _ (wr.drewN n) (by omega) (Rd.drewN q1 n) (Rd.drewN q2 n)).mono fun e w' ⟨h1, h2⟩ => ⟨by rw [h1, decide_eq_true ex], h2⟩
          have S2 : Hid (∀ j, j < k + 1 → xs.getD j [] = ys.getD j []) := ST.out ex
          clear r1 r2 q1 q2 d1 d2 hw0 NK ST ex
          generalize x.length = X at *
          generalize y.length = Y at *
          go_wp2_with fail
          go_quiet ((go_at_call 17; exact Calls.quiet_of (SM.out _)))
          go_wp2_with fail
          go_roundw
          case rel => exact ⟨m + nq, k + 1, by rw [HW.out]; simp, by go_num, by omega, S2⟩
          case measure => simp [intOf]; omega
        · have SM : Hid (∀ n, Calls Tryd.prog 17 #[.slice a1 x.length c1, .slice a2 y.length c2] (wr.drewN n) fun e w' => e = .returned (.bool false) ∧ ∃ q, w' = (wr.drewN n).drewN q) := fun n => (jsame_at x y _ _ (wr.drewN n) (by omega) (Rd.drewN q1 n) (Rd.drewN q2 n)).mono fun e w' ⟨h1, h2⟩ => ⟨by rw [h1, decide_eq_false ex], h2⟩
          have NO : Hid (D = false) := NK ex
          clear r1 r2 q1 q2 d1 d2 hw0 NK ST ex
          generalize x.length = X at *
          generalize y.length = Y at *
          go_wp2_with fail
          go_quiet ((go_at_call 17; exact Calls.quiet_of (SM.out _)))
          go_wp2_with fail
          go_ret
          exact ⟨by rw [NO.out]; rfl, m + nq, by rw [HW.out]; simp⟩
      · obtain rfl : k = L := by omega
        clear hw0
        go_wp2_with fail
        go_ret
        exact ⟨by rw [YES.out (EQL.out (by first | rfl | trivial) EQ.out)]; rfl, m, HW.out⟩
  · have e0 : ((L : Int) != (L' : Int)) = true := bne_iff_ne.2 (by omega)
    have NO : Hid (D = false) := NEL.out hne
    clear hne
    go_enter Tryd.func18, Tryd.ntmps18
    go_wp2_with fail
    go_ret
    exact ⟨by rw [NO.out]; rfl, 0, rfl⟩

/-- A step of a script. -/
structure OpJ where
  kind : Int
  a : Int
  b : Int
  zeros : Int
  data : List Nat
def ojL (o : OpJ) (x : Option Addr) (c : Nat) : List Value := [.int .i64 o.kind, .int .i64 o.a, .int .i64 o.b, .int .i64 o.zeros, .slice x o.data.length c]
/-- A script that came in. -/
def RdJ (w : World) (v : Value) (os : List OpJ) : Prop :=
  ∃ ao cap, v = .slice ao os.length cap ∧ ∀ i o, os[i]? = some o → ∃ g off x c, ao = some ⟨g, off, none⟩ ∧ g < w.heap.size ∧ w.rangeAt g (off + i * 5) (ojL o x c) ∧ RdB w (.slice x o.data.length c) o.data
theorem rangeAt_below {w w' : World} {g o : Nat} {cs : List Value} (h : w.rangeAt g o cs) (hb : Below w.heap.size w w') (hg : g < w.heap.size) : w'.rangeAt g o cs := fun j v hv => (hb.cell (p := ⟨g, o + j, none⟩) hg).trans (h j v hv)
theorem RdJ.later {w w' : World} {v : Value} {os : List OpJ} (h : RdJ w v os) (hb : Below w.heap.size w w') : RdJ w' v os := by
  obtain ⟨ao, cap, e, H⟩ := h
  refine ⟨ao, cap, e, fun i o ho => ?_⟩
  obtain ⟨g, off, x, c, e1, lt, r, d⟩ := H i o ho
  exact ⟨g, off, x, c, e1, Nat.lt_of_lt_of_le lt hb.size, rangeAt_below r hb lt, Rd.later d hb⟩
/-- The bytes of a script's first steps. -/
def lenJ (os : List OpJ) (k : Nat) : Nat := ((os.take k).map (fun o => o.data.length)).sum
theorem lenJ_succ {os : List OpJ} {k : Nat} {o : OpJ} (h : os[k]? = some o) : lenJ os (k + 1) = lenJ os k + o.data.length := by
  unfold lenJ
  rw [List.take_add_one, h]
  simp
theorem lenJ_mono (os : List OpJ) {j k : Nat} (h : j ≤ k) : lenJ os j ≤ lenJ os k := by
  induction k with
  | zero => have : j = 0 := by omega
            subst this; exact Nat.le_refl _
  | succ k ih =>
    by_cases e : j = k + 1
    · subst e; exact Nat.le_refl _
    · have := ih (by omega)
      cases hk : os[k]? with
      | none => unfold lenJ at *; rw [List.take_add_one, hk]; simpa using this
      | some o => rw [lenJ_succ hk]; omega
def fitsJ (bs : List Nat) (os : List OpJ) : Prop := bs.length + os.length + lenJ os os.length ≤ 4096
instance (bs : List Nat) (os : List OpJ) : Decidable (fitsJ bs os) := inferInstanceAs (Decidable (_ ≤ _))

set_option maxRecDepth 40000 in
set_option maxHeartbeats 1000000 in
theorem fits_at (bs : List Nat) (os : List OpJ) (va vb : Value) (w : World) (h : RdB w va bs) (h' : RdJ w vb os) (hb : bs.length ≤ 140737488355328) (ho : os.length ≤ 140737488355328) (hd : ∀ o ∈ os, o.data.length ≤ 140737488355328) :
    Calls Tryd.prog 7 #[va, vb] w fun e w' => e = .returned (.bool (decide (fitsJ bs os))) ∧ w' = w := by
  obtain ⟨ao, cap, rfl, -⟩ := h
  obtain ⟨ao', cap', rfl, H⟩ := h'
  rw [List.length_map]
  have HH : Hid (∀ i, i < os.length → ∃ g off n a c, ao' = some ⟨g, off, none⟩ ∧ w.cell? ⟨g, off + i * 5 + 4, none⟩ = some (.slice a n c) ∧ lenJ os (i + 1) = lenJ os i + n ∧ n ≤ 140737488355328) := fun i hi => by
    obtain ⟨g, off, x, c, e1, _, r, _⟩ := H i _ (List.getElem?_eq_getElem hi)
    exact ⟨g, off, _, x, c, e1, r 4 _ rfl, lenJ_succ (List.getElem?_eq_getElem hi), hd _ (List.getElem_mem _)⟩
  have MN : Hid (∀ j, j ≤ os.length → lenJ os j ≤ lenJ os os.length) := fun j hj => lenJ_mono os hj
  obtain ⟨D, hD⟩ : ∃ D, decide (fitsJ bs os) = D := ⟨_, rfl⟩
  have YES : Hid (D = decide (bs.length + os.length + lenJ os os.length ≤ 4096)) := by rw [← hD]; exact decide_eq_decide.2 Iff.rfl
  rw [hD]
  have Z0 : Hid (lenJ os 0 = 0) := rfl
  clear hD H hd
  generalize os.length = L at *
  generalize bs.length = B at *
  go_enter Tryd.func7, Tryd.ntmps7
  go_wp2_with fail
  go_loopw [5, 6] (fun vn vk wr => ∃ (k n : Nat), wr = w ∧ vn = .int .i64 (n : Int) ∧ vk = .int .i64 (k : Int) ∧ k ≤ L ∧ Hid (n = B + L + lenJ os k) ∧ Hid (0 < k → n ≤ 4096) ∧ n ≤ 281474976710656) (fun _ vk _ => L - (intOf vk).toNat)
  case atStart => exact ⟨0, B + L, rfl, by go_num, rfl, by omega, by have := Z0.out; show _ = _; omega, fun h => by omega, by omega⟩
  case round =>
    obtain ⟨k, n, hw, rfl, rfl, hk, HN, HM, hn⟩ := hrel
    subst hw
    by_cases hlt : (k : Int) < (L : Int)
    · obtain ⟨g, off, m, a, c, rfl, c4, hm, hmm⟩ := HH.out k (by omega)
      have HE : Hid (lenJ os (k + 1) = lenJ os k + m) := hm
      clear hm
      by_cases h4 : (4096 : Int) < (n : Int) + (m : Int)
      · have d4 : decide ((4096 : Int) < (n : Int) + (m : Int)) = true := decide_eq_true h4
        go_wp2_with fail
        go_ret
        refine ⟨?_, rfl⟩
        rw [YES.out]
        have := MN.out (k + 1) (by omega)
        have := HE.out
        have := HN.out
        rw [decide_eq_false (by omega)]
        try rfl
      · have d4 : decide ((4096 : Int) < (n : Int) + (m : Int)) = false := decide_eq_false h4
        go_wp2_with fail
        go_roundw
        case rel => exact ⟨k + 1, n + m, (by first | rfl | trivial), by go_num, by go_num, by omega, by have := HE.out; have := HN.out; show _ = _; omega, fun _ => by omega, by omega⟩
        case measure => simp [intOf]; omega
    · obtain rfl : k = L := by omega
      by_cases h4 : (n : Int) ≤ 4096
      · have d4 : decide ((n : Int) ≤ 4096) = true := decide_eq_true h4
        go_wp2_with fail
        go_ret
        refine ⟨?_, rfl⟩
        rw [YES.out]
        have := HN.out
        rw [decide_eq_true (by omega)]
        try rfl
      · have d4 : decide ((n : Int) ≤ 4096) = false := decide_eq_false h4
        go_wp2_with fail
        go_ret
        refine ⟨?_, rfl⟩
        rw [YES.out]
        have := HN.out
        rw [decide_eq_false (by omega)]
        try rfl
end Go.Proofs.YtcmfehabcklbpaaDoor
