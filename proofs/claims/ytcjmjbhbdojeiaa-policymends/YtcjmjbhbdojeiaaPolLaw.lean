/-
  Ours: the statements' same, copied, own.
-/
import Derived.Test.YtcjmjbhbdojeiaaPolHol
import Derived.Test.YtcjmjbhbdojeiaaPolRul
import Derived.Deep.QuietTactic
import Derived.BigQuiet
namespace Go.Proofs.Ytcjmjbhbdojeiaa
open Go.RowKit LedM PolM

theorem list_eq_getD {xs ys : List Int} (hl : xs.length = ys.length) (h : ∀ j, j < xs.length → xs.getD j 0 = ys.getD j 0) : xs = ys := by
  apply List.ext_getElem hl
  intro i h1 h2
  have := h i h1
  rwa [List.getD_eq_getElem?_getD, List.getD_eq_getElem?_getD, List.getElem?_eq_getElem h1, List.getElem?_eq_getElem h2] at this

set_option maxHeartbeats 2000000 in
theorem same_at (xs ys : List Int) (va vb : Value) (w : World) (hl : xs.length ≤ 1000000000) (h : Rd w va (bkL xs)) (h' : Rd w vb (bkL ys)) :
    Calls Try.prog 16 #[va, vb] w fun e w' => e = .returned (.bool (decide (xs = ys))) ∧ Below w.heap.size w w' := by
  obtain ⟨ao, cap, rfl, hc, hn, H⟩ := h
  obtain ⟨ao', cap', rfl, hc', hn', H'⟩ := h'
  have HH : Hid (∀ k, k < xs.length → ∃ g o, ao = some ⟨g, o, none⟩ ∧ g < w.heap.size ∧ w.cell? ⟨g, o + k, none⟩ = some (.int .i64 (xs.getD k 0))) := rd_cells H
  have HH' : Hid (∀ k, k < ys.length → ∃ g o, ao' = some ⟨g, o, none⟩ ∧ g < w.heap.size ∧ w.cell? ⟨g, o + k, none⟩ = some (.int .i64 (ys.getD k 0))) := rd_cells H'
  rw [bkL_len, bkL_len]
  have NE : Hid (xs.length ≠ ys.length → decide (xs = ys) = false) := fun h => decide_eq_false (fun e => h (by rw [e]))
  have NG : Hid (∀ k, xs.getD k 0 ≠ ys.getD k 0 → decide (xs = ys) = false) := fun k h => decide_eq_false (fun e => h (by rw [e]))
  have YS : Hid (xs.length = ys.length → (∀ j, j < xs.length → xs.getD j 0 = ys.getD j 0) → decide (xs = ys) = true) := fun h1 h2 => decide_eq_true (list_eq_getD h1 h2)
  clear H H' hc hc' hn hn'
  generalize decide (xs = ys) = B at *
  generalize xs.length = L at *
  generalize ys.length = L' at *
  by_cases hne : (L : Int) = (L' : Int)
  · obtain rfl : L = L' := by omega
    have e0 : ((L : Int) != (L : Int)) = false := by simp
    clear hne
    go_enter Try.func16, Try.ntmps16
    go_wp2_with fail
    go_loopw [5] (fun vk wr => ∃ (m k : Nat), wr = w.drewN m ∧ vk = .int .i64 (k : Int) ∧ k ≤ L ∧ Hid (∀ j, j < k → xs.getD j 0 = ys.getD j 0)) (fun vk _ => L - (intOf vk).toNat)
    case atStart => exact ⟨0, 0, rfl, rfl, by omega, fun j hj => by omega⟩
    case round =>
      obtain ⟨m, k, rfl, rfl, hk, EQ⟩ := hrel
      by_cases hlt : (k : Int) < (L : Int)
      · obtain ⟨g, off, rfl, -, c0⟩ := HH.out k (by omega)
        obtain ⟨g', off', rfl, -, d0⟩ := HH'.out k (by omega)
        by_cases ex : xs.getD k 0 = ys.getD k 0
        · have EQ1 : Hid (∀ j, j < k + 1 → xs.getD j 0 = ys.getD j 0) := fun j hj => by
            by_cases e : j = k
            · subst e; exact ex
            · exact EQ.out j (by omega)
          rw [← ex] at d0
          clear ex
          generalize xs.getD k 0 = x at *
          have e1 : (x != x) = false := by simp
          go_wp2_with fail
          go_quiet (fail)
          go_wp2_with fail
          go_roundw
          case rel =>
            exact ⟨m + nq, k + 1, by simp, by go_num, by omega, EQ1.out⟩
          case measure => simp [intOf]; omega
        · obtain rfl := NG.out k ex
          have e1 : (xs.getD k 0 != ys.getD k 0) = true := bne_iff_ne.2 ex
          clear ex NG
          generalize xs.getD k 0 = x at *
          generalize ys.getD k 0 = y at *
          go_wp2_with fail
          go_quiet (fail)
          go_wp2_with fail
          go_ret
          exact ⟨rfl, below_drewN (below_drewN (Below.refl _ _) m) nq⟩
      · obtain rfl : k = L := by omega
        obtain rfl := YS.out trivial EQ.out
        go_wp2_with fail
        go_ret
        exact ⟨rfl, below_drewN (Below.refl _ _) m⟩
  · obtain rfl := NE.out (by omega)
    have e0 : ((L : Int) != (L' : Int)) = true := bne_iff_ne.2 hne
    go_enter Try.func16, Try.ntmps16
    go_wp2_with fail
    go_ret
    exact ⟨rfl, Below.refl _ _⟩

theorem rd_new (T : TypeId) (vs : List Value) (w : World) : Rd (w.alloc (.cells vs.toArray T)) (.slice (some ⟨w.heap.size, 0, none⟩) vs.length vs.length) vs := by
  refine ⟨_, _, rfl, Nat.le_refl _, (fun h => by cases h), fun i hi => ⟨w.heap.size, 0, rfl, by simp, ?_⟩⟩
  exact (Blk.new T vs w).cell (0 + i) _ (by rw [Nat.zero_add]; exact List.getElem?_eq_getElem hi)
theorem one3 : ∀ u ∈ [Value.int .i64 (-7), .int .i64 (-8), .int .i64 (-9)], u.oneCell' = true := by decide
theorem infoV : (Try.prog.info? 3).map (fun i => (i.zero, i.size, i.bytes)) = some (some (.int .i64 0), 1, 8) := by kernel_rfl

set_option maxRecDepth 20000 in
set_option maxHeartbeats 2000000 in
theorem copied_at (hs : List Int) (s : Value) (w : World) (hr : Rd w s (bkL hs)) (hb : hs.length ≤ 1000000) :
    Calls Try.prog 17 #[s] w fun e w' => ∃ v, e = .returned v ∧ RowV 3 w.heap.size w' v (bkL (hs ++ [-7, -8, -9])) ∧ Below w.heap.size w w' := by
  have iv := infoV
  cases hq : Try.prog.info? 3 with
  | none => simp [hq] at iv
  | some i =>
  simp [hq] at iv
  obtain ⟨i1, i2, i3⟩ := iv
  have hi := hq
  have RD : Hid (∀ w', Below w.heap.size w w' → Rd w' s (bkL hs)) := fun w' hb' => hr.later hb'
  obtain ⟨ao, cap, rfl, hc, hn, -⟩ := hr
  have CE : Hid (∀ w', Below w.heap.size w w' → ∀ k, k < hs.length → ∃ g o, ao = some ⟨g, o, none⟩ ∧ w'.cell? ⟨g, o + k, none⟩ = some (.int .i64 (hs.getD k 0))) := fun w' hb' k hk => by
    obtain ⟨ao', cap', e, _, _, H⟩ := RD.out w' hb'
    injection e with e1 _ _
    subst e1
    obtain ⟨g, o, e, _, c⟩ := rd_cells H k hk
    exact ⟨g, o, e, c⟩
  clear RD
  rw [bkL_len]
  have TK : Hid (∀ k, k < hs.length → bkL (hs.take (k + 1)) = bkL (hs.take k) ++ [.int .i64 (hs.getD k 0)]) := fun k hk => by
    show bkL _ = _
    rw [List.take_add_one, List.getElem?_eq_getElem hk, List.getD_eq_getElem?_getD, List.getElem?_eq_getElem hk]
    rw [bkL, List.map_append]; rfl
  have LN : Hid (∀ k, k ≤ hs.length → (bkL (hs.take k)).length = k) := fun k hk => by show _ = _; rw [bkL_len, List.length_take]; omega
  have EN : Hid (bkL (hs.take hs.length) ++ [.int .i64 (-7), .int .i64 (-8), .int .i64 (-9)] = bkL (hs ++ [-7, -8, -9])) := by show _ = _; rw [List.take_length]; simp [bkL]
  have HN : Hid (∃ L, hs.length = L) := ⟨_, rfl⟩
  generalize hL : hs.length = L at *
  have HL : Hid (hs.length = L) := hL
  clear hc hn hL hq
  go_enter Try.func17, Try.ntmps17
  go_wp2_with fail
  go_loopw [3, 4] (fun vc vk wr => ∃ k : Nat, vk = .int .i64 (k : Int) ∧ k ≤ L ∧ Hid (RowV 3 w.heap.size wr vc (bkL (hs.take k))) ∧ Hid (Below w.heap.size w wr)) (fun _ vk _ => L - (intOf vk).toNat)
  case atStart => exact ⟨0, rfl, by omega, World.ownsRow_nil _ _ _ _, Below.refl _ _⟩
  case round =>
    obtain ⟨k, rfl, hk, RV, BR⟩ := hrel
    have LK : Hid ((bkL (hs.take k)).length = k) := LN.out k hk
    by_cases hlt : (k : Int) < (L : Int)
    · obtain ⟨g, o, rfl, c0⟩ := CE.out wr BR.out k (by omega)
      have TK' : Hid (bkL (hs.take (k + 1)) = bkL (hs.take k) ++ [.int .i64 (hs.getD k 0)]) := TK.out k (by omega)
      generalize hs.getD k 0 = x at *
      go_wp2_with (at_builtin; refine wpList_pushV rfl (.tmp 11) (.tmp 16) 22 rfl 3 i (.int .i64 0) 8 Try.underlying22 hi i1 i2 i3 rfl w.heap.size _ (bkL (hs.take k)) (.int .i64 x) rfl rfl RV.out BR.out.size rfl (by have := LK.out; unfold maxLen; omega) (by have := LK.out; omega) ?_; intro v' w' rv' gr')
      have B' : Hid (Below w.heap.size w w') := below_grown BR.out RV.out (Nat.le_refl _) BR.out.size gr'
      go_roundw
      case rel => exact ⟨k + 1, by go_num, by omega, by rw [TK'.out]; exact rv', B'.out⟩
      case measure => simp [intOf]; omega
    · obtain rfl : k = L := by omega
      have RA := RV.out.later (below_alloc wr (.cells #[.int .i64 (-7), .int .i64 (-8), .int .i64 (-9)] 3))
      have BA : Hid (Below w.heap.size w (wr.alloc (.cells #[.int .i64 (-7), .int .i64 (-8), .int .i64 (-9)] 3))) := below_trans BR.out (below_alloc _ _)
      have RM : Hid (Rd (wr.alloc (.cells #[.int .i64 (-7), .int .i64 (-8), .int .i64 (-9)] 3)) (.slice (some ⟨wr.heap.size, 0, none⟩) 3 3) [.int .i64 (-7), .int .i64 (-8), .int .i64 (-9)]) := rd_new _ _ _
      go_wp2_with (at_builtin; refine wpList_catV rfl (.tmp 18) (.tmp 19) 22 rfl 3 i (.int .i64 0) 8 Try.underlying22 hi i1 i2 i3 rfl w.heap.size _ _ (bkL (hs.take k)) [.int .i64 (-7), .int .i64 (-8), .int .i64 (-9)] one3 rfl RA BA.out.size rfl RM.out (by have := LK.out; unfold maxLen; show _ + 3 ≤ _; omega) (by have := LK.out; show (_ + 3) * 8 ≤ _; omega) ?_; intro v' w' rv' gr')
      have B' : Hid (Below w.heap.size w w') := below_grown BA.out RA (Nat.le_refl _) BA.out.size gr'
      go_ret
      exact ⟨_, rfl, by rw [← EN.out]; exact rv', B'.out⟩
end Go.Proofs.Ytcjmjbhbdojeiaa
