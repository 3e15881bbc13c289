/-
  Ours: lists of numbers: sameNums, nums, PutList with PutInt, the reference's PutInts.
-/
import Derived.Test.YtfdahdloihgjeaaWirInt
import Derived.Test.YtfdahdloihgjeaaWirTold
namespace Go.Proofs.Ytfdahdloihgjeaa
open Go.RowKit

abbrev RdI (w : World) (v : Value) (xs : List Int) : Prop := Rd w v (xs.map (Value.int .i64))
abbrev RowI (base : Nat) (w : World) (v : Value) (xs : List Int) : Prop := RowV 2 base w v (xs.map (Value.int .i64))
theorem infoL : (Try.prog.info? 2).map (fun i => (i.zero, i.size, i.bytes)) = some (some (.int .i64 0), 1, 8) := by kernel_rfl
theorem underL : Try.prog.underlying 22 = some (.slice 2) := by kernel_rfl
def I64s (xs : List Int) : Prop := ∀ x ∈ xs, -9223372036854775808 ≤ x ∧ x ≤ 9223372036854775807
/-- The telling of a list. -/
def putFs (xs : List Int) : List Nat := xs.flatMap putI
def putL (xs : List Int) : List Nat := put xs.length ++ putFs xs
theorem putI_len (y : Int) (h : -9223372036854775808 ≤ y ∧ y ≤ 9223372036854775807) : (putI y).length ≤ 10 := put_len10 _ (zz_lt y h.1 h.2)
theorem putFs_len : ∀ (xs : List Int), I64s xs → (putFs xs).length ≤ 10 * xs.length
  | [], _ => by simp [putFs]
  | x :: xs, h => by
    have h1 := putI_len x (h x (by simp))
    have h2 := putFs_len xs (fun y hy => h y (by simp [hy]))
    simp only [putFs, List.flatMap_cons, List.length_append, List.length_cons] at *
    omega
theorem I64s.take {xs : List Int} (h : I64s xs) (k : Nat) : I64s (xs.take k) := fun x hx => h x (List.mem_of_mem_take hx)
theorem putFs_step (xs : List Int) (k : Nat) (h : k < xs.length) : putFs (xs.take (k + 1)) = putFs (xs.take k) ++ putI (xs.getD k 0) := by
  have e : xs.take (k + 1) = xs.take k ++ [xs[k]] := by rw [List.take_add_one, List.getElem?_eq_getElem h]; rfl
  have g : xs.getD k 0 = xs[k] := by rw [List.getD_eq_getElem?_getD, List.getElem?_eq_getElem h]; rfl
  rw [e, g]
  unfold putFs
  rw [List.flatMap_append]
  simp

set_option maxHeartbeats 2000000 in
theorem sameNums_at (xs ys : List Int) (va vb : Value) (w : World) (hl : xs.length ≤ 140737488355328) (h : RdI w va xs) (h' : RdI w vb ys) :
    Calls Try.prog 14 #[va, vb] w fun e w' => e = .returned (.bool (decide (xs = ys))) ∧ ∃ n, w' = w.drewN n := by
  obtain ⟨ao, cap, rfl, hc, hn, H⟩ := h
  obtain ⟨ao', cap', rfl, hc', hn', H'⟩ := h'
  simp only [List.length_map] at *
  obtain ⟨L, hL⟩ : ∃ L, xs.length = L := ⟨_, rfl⟩
  obtain ⟨L', hL'⟩ : ∃ L, ys.length = L := ⟨_, rfl⟩
  have HH : Hid (∀ i (h : i < L), ∃ g o, ao = some ⟨g, o, none⟩ ∧ w.cell? ⟨g, o + i, none⟩ = some (.int .i64 (xs.getD i 0))) := fun i hi => by
    obtain ⟨g, o, e1, _, e2⟩ := H i (by omega)
    refine ⟨g, o, e1, ?_⟩
    rw [e2, List.getElem_map, List.getD_eq_getElem?_getD, List.getElem?_eq_getElem (by omega)]; rfl
  have HH' : Hid (∀ i (h : i < L'), ∃ g o, ao' = some ⟨g, o, none⟩ ∧ w.cell? ⟨g, o + i, none⟩ = some (.int .i64 (ys.getD i 0))) := fun i hi => by
    obtain ⟨g, o, e1, _, e2⟩ := H' i (by omega)
    refine ⟨g, o, e1, ?_⟩
    rw [e2, List.getElem_map, List.getD_eq_getElem?_getD, List.getElem?_eq_getElem (by omega)]; rfl
  have HL : Hid (xs.length = L) := hL
  have HL' : Hid (ys.length = L') := hL'
  rw [hL] at hl
  rw [hL, hL']
  clear H H' hL hL' hc hc' hn hn'
  by_cases hne : (L : Int) = (L' : Int)
  · obtain rfl : L = L' := by omega
    have e0 : ((L : Int) != (L : Int)) = false := by simp
    clear hne
    go_enter Try.func14, Try.ntmps14
    go_wp2_with fail
    go_loopw [5] (fun vk wr => ∃ (m k : Nat), wr = w.drewN m ∧ vk = .int .i64 (k : Int) ∧ k ≤ L ∧ Hid (∀ j, j < k → xs.getD j 0 = ys.getD j 0)) (fun vk _ => L - (intOf vk).toNat)
    case atStart => exact ⟨0, 0, rfl, rfl, by omega, fun j hj => by omega⟩
    case round =>
      obtain ⟨m, k, rfl, rfl, hk, EQ⟩ := hrel
      by_cases hlt : (k : Int) < (L : Int)
      · obtain ⟨g, off, rfl, c0⟩ := HH.out k (by omega)
        obtain ⟨g', off', rfl, d0⟩ := HH'.out k (by omega)
        by_cases ex : (xs.getD k 0) = (ys.getD k 0)
        · have EX : Hid (xs.getD k 0 = ys.getD k 0) := ex
          rw [← ex] at d0
          clear ex
          generalize xs.getD k 0 = x at c0 d0
          have e1 : (x != x) = false := by simp
          go_wp2_with fail
          go_quiet (fail)
          go_wp2_with fail
          go_roundw
          case rel =>
            refine ⟨m + nq, k + 1, by simp, by go_num, by omega, fun j hj => ?_⟩
            by_cases e : j = k
            · subst e; exact EX.out
            · exact EQ.out j (by omega)
          case measure => simp [intOf]; omega
        · have EX : Hid (¬ xs.getD k 0 = ys.getD k 0) := ex
          have e1 : ((xs.getD k 0) != (ys.getD k 0)) = true := bne_iff_ne.2 ex
          clear ex
          generalize xs.getD k 0 = x at c0 e1
          generalize ys.getD k 0 = y at d0 e1
          go_wp2_with fail
          go_quiet (fail)
          go_wp2_with fail
          go_ret
          refine ⟨?_, m + nq, by simp⟩
          rw [decide_eq_false (fun e => EX.out (by rw [e]))]; rfl
      · obtain rfl : k = L := by omega
        go_wp2_with fail
        go_ret
        refine ⟨?_, m, rfl⟩
        rw [decide_eq_true]; rfl
        apply List.ext_getElem (by rw [HL.out, HL'.out])
        intro i h1 h2
        have := EQ.out i (by have := HL.out; omega)
        simpa [List.getD_eq_getElem?_getD, List.getElem?_eq_getElem h1, List.getElem?_eq_getElem h2] using this
  · have e0 : ((L : Int) != (L' : Int)) = true := by simpa using hne
    go_enter Try.func14, Try.ntmps14
    go_wp2_with fail
    go_ret
    refine ⟨?_, 0, rfl⟩
    rw [decide_eq_false (fun e => hne (by rw [← HL.out, ← HL'.out, e]))]; rfl

set_option maxHeartbeats 2000000 in
theorem nums_at (xs : List Int) (v : Value) (w : World) (hl : xs.length ≤ 1000000000000) (h : RdI w v xs) :
    Calls Try.prog 9 #[v] w fun e w' => ∃ v', e = .returned v' ∧ RowI w.heap.size w' v' xs ∧ Below w.heap.size w w' := by
  obtain ⟨i0, hi, hz0, hz1, hz2⟩ := info_parts infoL
  have nil : RowV 2 w.heap.size w (.slice none 0 0) [] := RowV.nil _ _ _
  have l1 : ([] : List Value).length + (xs.map (Value.int .i64)).length ≤ maxLen := by simp; unfold maxLen; omega
  have l2 : (([] : List Value).length + (xs.map (Value.int .i64)).length) * 8 ≤ 140737488355328 := by simp; omega
  have one : ∀ u ∈ xs.map (Value.int .i64), u.oneCell' = true := fun u hu => by obtain ⟨x, _, rfl⟩ := List.mem_map.1 hu; rfl
  go_enter Try.func9, Try.ntmps9
  go_wp2_with (at_builtin; refine wpList_catV rfl (.tmp 4) (.tmp 5) 22 rfl 2 i0 (.int .i64 0) 8 underL hi hz0 hz1 hz2 rfl w.heap.size _ _ _ _ one rfl nil (Nat.le_refl _) rfl h l1 l2 ?_; intro v' w2 hown' hgr)
  go_ret
  exact ⟨_, rfl, hown', below_none hgr⟩

set_option maxRecDepth 20000 in
set_option maxHeartbeats 2000000 in
theorem putList_at (xs : List Int) (v : Value) (w : World) (hx : I64s xs) (hl : xs.length ≤ 1000000000000) (h : RdI w v xs) : Calls Try.prog 11 #[v, .func (.func 12) #[] #[]] w (NewB w (putL xs)) := by
  obtain ⟨i0, hi, hz0, hz1, hz2⟩ := info_parts infoB
  have U : Hid (Calls Try.prog 21 #[.int .u64 (xs.length : Int)] w (NewB w (put xs.length))) := putUint_at _ (by omega) w
  obtain ⟨L, hL⟩ : ∃ L, xs.length = L := ⟨_, rfl⟩
  obtain ⟨ao, cap, rfl, hcap, hn, H⟩ := h
  have HH : Hid (∀ i (h : i < L), ∃ g o, ao = some ⟨g, o, none⟩ ∧ g < w.heap.size ∧ w.cell? ⟨g, o + i, none⟩ = some (.int .i64 (xs.getD i 0)) ∧ putFs (xs.take (i + 1)) = putFs (xs.take i) ++ putI (xs.getD i 0) ∧ (-9223372036854775808 ≤ xs.getD i 0 ∧ xs.getD i 0 ≤ 9223372036854775807)) := fun i hi => by
    obtain ⟨g, o, e1, lt, e2⟩ := H i (by rw [List.length_map]; omega)
    refine ⟨g, o, e1, lt, ?_, putFs_step xs i (by omega), ?_⟩
    · rw [e2, List.getElem_map, List.getD_eq_getElem?_getD, List.getElem?_eq_getElem (by omega)]; rfl
    · rw [List.getD_eq_getElem?_getD, List.getElem?_eq_getElem (by omega)]; exact hx _ (List.getElem_mem _)
  have LN : Hid (∀ k, k ≤ L → (put L ++ putFs (xs.take k)).length ≤ 10 + 10 * k) := fun k hk => by
    have h1 := put_len10 L (by omega)
    have h2 := putFs_len _ (hx.take k)
    rw [List.length_take] at h2
    rw [List.length_append]
    omega
  have PF : Hid (put L ++ putFs (xs.take L) = putL xs) := by show _ = _; rw [List.take_of_length_le (by omega)]; unfold putL; rw [hL]
  rw [List.length_map, hL] at hcap ⊢
  rw [hL] at U
  have hl' : L ≤ 1000000000000 := by omega
  clear H hL hl hx
  go_enter Try.func11, Try.ntmps11
  go_wp2_with fail
  refine U.out.mono ?_
  rintro e w1 ⟨v1, rfl, r1, b1⟩
  go_wp2_with fail
  go_loopw [5, 14] (fun v vk wr => ∃ k : Nat, vk = .int .i64 (k : Int) ∧ k ≤ L ∧ RowB 5 w.heap.size wr v (put L ++ putFs (xs.take k)) ∧ Below w.heap.size w wr) (fun _ vk _ => L - (intOf vk).toNat)
  case atStart => exact ⟨0, rfl, by omega, by simpa [putFs] using r1, b1⟩
  case round =>
    obtain ⟨k, rfl, hk, hown, hnx⟩ := hrel
    have hsz := hnx.size
    by_cases hlt : (k : Int) < (L : Int)
    · obtain ⟨g, o, rfl, lt, cc, ct, xb⟩ := HH.out k (by omega)
      have c2 : wr.cell? ⟨g, o + k, none⟩ = some (.int .i64 (xs.getD k 0)) := (hnx.cell (p := ⟨g, o + k, none⟩) lt).trans cc
      have CT : Hid (putFs (xs.take (k + 1)) = putFs (xs.take k) ++ putI (xs.getD k 0)) := ct
      have l0 := LN.out k hk
      clear ct cc
      have PI : Hid (∀ w, Calls Try.prog 12 #[.int .i64 (xs.getD k 0)] w (NewB w (putI (xs.getD k 0)))) := fun w => putInt_at _ xb.1 xb.2 w
      have l3 := putI_len _ xb
      clear xb
      generalize xs.getD k 0 = x at *
      go_wp2_with fail
      refine (PI.out _).mono ?_
      rintro e w2 ⟨v2, rfl, r2, b2⟩
      have own2 := RowV.later hown b2
      have rd2 := RowV.rd r2
      have nx2 := hnx.trans (b2.mono hsz)
      have sz2 := nx2.size
      have one : ∀ u ∈ (putI x).map bv, u.oneCell' = true := fun u hu => by obtain ⟨x, _, rfl⟩ := List.mem_map.1 hu; rfl
      have l1 : ((put L ++ putFs (xs.take k)).map bv).length + ((putI x).map bv).length ≤ maxLen := by rw [List.length_map, List.length_map]; unfold maxLen; omega
      have l2 : (((put L ++ putFs (xs.take k)).map bv).length + ((putI x).map bv).length) * 1 ≤ 140737488355328 := by rw [List.length_map, List.length_map]; omega
      clear r2 b2 hnx hown
      go_wp2_with (at_builtin; refine wpList_catV rfl (.tmp 18) (.tmp 21) 25 rfl 5 i0 (.int .u8 0) 1 underB hi hz0 hz1 hz2 rfl w.heap.size _ _ _ _ one rfl own2 sz2 rfl rd2 l1 l2 ?_; intro v' w3 hown' hgr)
      have hb : Below w.heap.size w w3 := below_grown nx2 own2 (Nat.le_refl _) sz2 hgr
      go_roundw
      case rel =>
        refine ⟨k + 1, by go_num, by omega, ?_, hb⟩
        rw [CT.out, ← List.append_assoc]
        simpa [RowB, List.map_append] using hown'
      case measure => simp [intOf]; omega
    · obtain rfl : k = L := by omega
      rw [PF.out] at hown
      go_wp2_with fail
      go_ret
      exact ⟨_, rfl, hown, hnx⟩
end Go.Proofs.Ytfdahdloihgjeaa
