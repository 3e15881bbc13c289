/-
  Ours: contracts of the statements' own marked, still.
-/
import Derived.Test.YtnelmgjdbheogacDoorCalAdj2
import Derived.Test.YtnelmgjdbheogacDoorOwn
namespace Go.Proofs.YtnelmgjdbheogacDoor
open Go.RowKit CalM

theorem infoI : (Tryd.prog.info? 3).map (fun i => (i.zero, i.size, i.bytes)) = some (some (.int .i64 0), 1, 8) := by kernel_rfl

/-- 'append(v, x, y, z)' on a row of the call's own. -/
theorem wpList_push3 {P : Program} {wr : World} {ops : Array Oper} {rest : List Oper} {o : Oper} {a : Act} {Q : Exit → Act → World → Prop} (hgd : o.guard = none) (s x : Operand) (t : TypeId)
    (ho : o.op = .call { callee := .builtin .append, args := #[s, x], argTypes := #[t, t] })
    (e : TypeId) (i : TypeInfo) (ht : P.underlying t = some (.slice e)) (hi : P.info? e = some i) (hz : i.zero = some (.int .i64 0)) (hsize : i.size = 1) (hby : i.bytes = 8)
    (base B : Nat) (w : World) (v : Value) (xs : List Int) (y1 y2 y3 : Int) (hs : a.eval s = v) (hown : Row e base wr v xs) (hnx : Below B w wr) (hB : B ≤ base) (hsz : base ≤ wr.heap.size)
    (hx : a.eval x = .slice (some ⟨wr.heap.size, 0, none⟩) 3 3) (hl : xs.length < 1099511627776)
    (h : ∀ v' w', Row e base w' v' (xs ++ [y1, y2, y3]) → Below B w w' → base ≤ w'.heap.size → wpList P ops Q rest (a.put o.dst v') w') :
    wpList P ops Q (o :: rest) a (wr.alloc (.cells #[.int .i64 y1, .int .i64 y2, .int .i64 y3] e)) := by
  refine wpList_append_own _ hgd s x t ho base e i (.int .i64 0) 1 8 ht hi hz hsize hby rfl (by decide) v xs.length (xs.map (Value.int .i64)) hs (World.ownsRow.alloc hown _) ⟨wr.heap.size, 0, none⟩ 3 3 [.int .i64 y1, .int .i64 y2, .int .i64 y3] hx rfl ?_ ?_ ?_ ?_ ?_ ?_
  · intro j u hj
    match j, hj with
    | 0, hj => simp at hj; subst hj; simp [Addr.add]
    | 1, hj => simp at hj; subst hj; simp [Addr.add]
    | 2, hj => simp at hj; subst hj; simp [Addr.add]
  · intro u hu; simp at hu; rcases hu with rfl | rfl | rfl <;> rfl
  · unfold maxLen; omega
  · omega
  · simp; omega
  · intro v' w' hown' hgrow _
    have r1 : Row e base w' v' (xs ++ [y1, y2, y3]) := by simpa [Row] using hown'
    refine h v' w' r1 ((hnx.alloc (by omega) _).grown hgrow (by simp; omega) (fun j hj => by have := (hown.lt j hj).1; omega)) ?_
    have := hgrow.size
    simp at this
    omega

set_option maxHeartbeats 1000000 in
theorem marked_at (a : Option Addr) (cap : Nat) (xs : List Int) (w : World) (h : SlOk w a xs) (l1 : xs.length ≤ 4096) :
    Calls Tryd.prog 38 #[.slice a xs.length cap] w fun e w' => ∃ v, e = .returned v ∧ Row 3 w.heap.size w' v (xs ++ [-71, -72, -73]) ∧ Up w w' := by
  obtain ⟨i0, hi, hz0, hz1, hz2⟩ := info_parts infoI
  obtain ⟨L, hL⟩ : ∃ L, xs.length = L := ⟨_, rfl⟩
  have HC : Hid (SlOk w a xs) := h
  have HL : Hid (xs.length = L) := hL
  rw [hL] at l1
  rw [hL]
  clear h hL
  go_enter Tryd.func38, Tryd.ntmps38
  go_wp2_with fail
  go_loopw [3, 4] (fun v i wr => ∃ k : Nat, k ≤ L ∧ i = .int .i64 (k : Int) ∧ Row 3 w.heap.size wr v (xs.take k) ∧ Below w.heap.size w wr) (fun _ i _ => L - (intOf i).toNat)
  case atStart => exact ⟨0, by omega, rfl, by rw [List.take_zero]; exact Row.nil _ _ _, Below.refl _ _⟩
  case round =>
    obtain ⟨k, hk, rfl, hown, hnx⟩ := hrel
    have hsz := hnx.size
    have hl : (xs.take k).length < 1099511627776 := by rw [List.length_take]; omega
    by_cases hlt : (k : Int) < (L : Int)
    · obtain ⟨g, off, rfl, cx0⟩ := HC.out.at (k := k) (by rw [HL.out]; omega)
      have cx : wr.cell? ⟨g, off + k, none⟩ = some (.int .i64 (xs.getD k 0)) := Up.cell hnx cx0
      have TK : Hid (xs.take (k + 1) = xs.take k ++ [xs.getD k 0]) := by
        show xs.take (k + 1) = _
        rw [List.take_add_one, List.getD_eq_getElem?_getD, List.getElem?_eq_getElem (by rw [HL.out]; omega)]; rfl
      generalize xs.getD k 0 = x at *
      clear cx0
      go_wp2_with (at_builtin; refine wpList_push rfl (.tmp 11) (.tmp 16) 29 rfl 3 i0 Tryd.underlying29 hi hz0 hz1 hz2 w.heap.size w.heap.size w _ _ _ rfl hown hnx (Nat.le_refl _) hsz rfl hl ?_; intro v' w1 hown' hnx' hsz')
      go_roundw
      case rel => exact ⟨k + 1, by omega, by go_num, by rw [TK.out]; exact hown', hnx'⟩
      case measure => simp [intOf]; omega
    · obtain rfl : k = L := by omega
      rw [List.take_of_length_le (by rw [HL.out]; omega)] at hown hl
      go_wp2_with (at_builtin; refine wpList_push3 rfl (.tmp 18) (.tmp 19) 29 rfl 3 i0 Tryd.underlying29 hi hz0 hz1 hz2 w.heap.size w.heap.size w _ _ _ _ _ rfl hown hnx (Nat.le_refl _) hsz rfl hl ?_; intro v' w1 hown' hnx' hsz')
      go_ret
      exact ⟨_, rfl, hown', hnx'⟩

set_option maxHeartbeats 1000000 in
theorem still_at (g cap cap2 : Nat) (a : Option Addr) (xs : List Int) (w : World) (h1 : SlOk w (some ⟨g, 0, none⟩) (xs ++ [-71, -72, -73])) (h2 : SlOk w a xs) (l1 : xs.length ≤ 4096) :
    Calls Tryd.prog 43 #[.slice (some ⟨g, 0, none⟩) (xs.length + 3) cap, .slice a xs.length cap2] w fun e w' => e = .returned (.bool true) ∧ ∃ n, w' = w.drewN n := by
  obtain ⟨L, hL⟩ : ∃ L, xs.length = L := ⟨_, rfl⟩
  have ln : (xs ++ [-71, -72, -73]).length = L + 3 := by simp [hL]
  have C1 : Hid (∀ i, i < L + 3 → w.cell? ⟨g, i, none⟩ = some (.int .i64 ((xs ++ [-71, -72, -73]).getD i 0))) := fun i hi => by
    obtain ⟨b, off, e, hc⟩ := h1.at (k := i) (by rw [ln]; exact hi)
    obtain ⟨rfl, rfl⟩ : b = g ∧ off = 0 := by
      have := Option.some.inj e
      simp at this
      exact ⟨this.1.symm, this.2.symm⟩
    simpa using hc
  have m0 : (xs ++ [-71, -72, -73]).getD L 0 = -71 := by rw [List.getD_eq_getElem?_getD, List.getElem?_append_right (by omega), hL]; simp
  have m1 : (xs ++ [-71, -72, -73]).getD (L + 1) 0 = -72 := by rw [List.getD_eq_getElem?_getD, List.getElem?_append_right (by omega), hL]; simp
  have m2 : (xs ++ [-71, -72, -73]).getD (L + 2) 0 = -73 := by rw [List.getD_eq_getElem?_getD, List.getElem?_append_right (by omega), hL]; simp
  have c0 : w.cell? ⟨g, L, none⟩ = some (.int .i64 (-71)) := by rw [C1.out L (by omega), m0]
  have c1 : w.cell? ⟨g, L + 1, none⟩ = some (.int .i64 (-72)) := by rw [C1.out (L + 1) (by omega), m1]
  have c2 : w.cell? ⟨g, L + 2, none⟩ = some (.int .i64 (-73)) := by rw [C1.out (L + 2) (by omega), m2]
  have MX : Hid (∀ i, i < L → (xs ++ [-71, -72, -73]).getD i 0 = xs.getD i 0) := fun i hi => by rw [List.getD_eq_getElem?_getD, List.getElem?_append_left (by omega), ← List.getD_eq_getElem?_getD]
  have HC : Hid (SlOk w a xs) := h2
  have HL : Hid (xs.length = L) := hL
  rw [hL] at l1
  rw [hL]
  clear h1 h2 hL ln m0 m1 m2
  go_enter Tryd.func43, Tryd.ntmps43
  go_wp2_with fail
  go_loopw [6] (fun ii wr => ∃ k m : Nat, k ≤ L ∧ ii = .int .i64 (k : Int) ∧ wr = w.drewN m) (fun ii _ => L - (intOf ii).toNat)
  case atStart => exact ⟨0, 0, by omega, rfl, rfl⟩
  case round =>
    obtain ⟨k, m, hk, rfl, hw⟩ := hrel
    by_cases hlt : (k : Int) < (L : Int)
    · obtain ⟨b, off, rfl, ca0⟩ := HC.out.at (k := k) (by rw [HL.out]; omega)
      have cg0 : w.cell? ⟨g, k, none⟩ = some (.int .i64 (xs.getD k 0)) := by rw [C1.out k (by omega), MX.out k (by omega)]
      have ca : wr.cell? ⟨b, off + k, none⟩ = some (.int .i64 (xs.getD k 0)) := by rw [hw]; exact ca0
      have cg : wr.cell? ⟨g, k, none⟩ = some (.int .i64 (xs.getD k 0)) := by rw [hw]; exact cg0
      have FN : Hid (∀ j, wr.drewN j = w.drewN (m + j)) := fun j => by rw [hw, World.drewN_drewN]
      have lt1 : (k : Int) < (L : Int) + 3 := by omega
      generalize xs.getD k 0 = x at *
      clear hw ca0 cg0 c0 c1 c2
      go_wp2_with fail
      go_quiet (fail)
      go_wp2_with fail
      go_roundw
      case rel => exact ⟨k + 1, m + nq, by omega, by go_num, FN.out nq⟩
      case measure => simp [intOf]; omega
    · have HW : Hid (wr = w.drewN m) := hw
      clear hw c0 c1 c2
      go_wp2_with fail
      go_ret
      exact ⟨rfl, m, HW.out⟩
end Go.Proofs.YtnelmgjdbheogacDoor
