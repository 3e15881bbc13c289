/-
  Ours: the statements' helper copied; rows of numbers that are written over; the helper same.
-/
import Derived.Test.YtkabfdajpilomabDoorOwn
import Derived.Test.YtkabfdajpilomabDoorCalHol
import Derived.Test.YtkabfdajpilomabDoorCalTab
import Derived.Test.YtkabfdajpilomabDoorIntAlike
namespace Go.Proofs.YtkabfdajpilomabDoor
open Go.RowKit

theorem infoI : (Tryd.prog.info? 3).map (fun i => (i.zero, i.size, i.bytes)) = some (some (.int .i64 0), 1, 8) := by kernel_rfl

/-- 'append(v, x, y, z)' on a row of the call's own. -/
theorem wpList_push3 {P : Program} {wr : World} {ops : Array Oper} {rest : List Oper} {o : Oper} {a : Act} {Q : Exit → Act → World → Prop} (hgd : o.guard = none) (s x : Operand) (t : TypeId)
    (ho : o.op = .call { callee := .builtin .append, args := #[s, x], argTypes := #[t, t] })
    (e : TypeId) (i : TypeInfo) (ht : P.underlying t = some (.slice e)) (hi : P.info? e = some i) (hz : i.zero = some (.int .i64 0)) (hsize : i.size = 1) (hby : i.bytes = 8)
    (base B : Nat) (w : World) (v : Value) (xs : List Int) (y1 y2 y3 : Int) (hs : a.eval s = v) (hown : Row e base wr v xs) (hnx : Below B w wr) (hB : B ≤ base) (hsz : base ≤ wr.heap.size)
    (hx : a.eval x = .slice (some ⟨wr.heap.size, 0, none⟩) 3 3) (hl : xs.length < 1099511627776)
    (h : ∀ v' w', Row e base w' v' (xs ++ [y1, y2, y3]) → Below B w w' → base ≤ w'.heap.size → wpList P ops Q rest (a.put o.dst v') w') :
    wpList P ops Q (o :: rest) a (wr.alloc (.cells #[.int .i64 y1, .int .i64 y2, .int .i64 y3] e)) := by
  refine wpList_append_own _ hgd s x t ho base e i (.int .i64 0) 1 8 ht hi hz hsize hby rfl (by decide) v xs.length (xs.map (Value.int .i64)) hs (World.ownsRow.alloc hown _) ⟨wr.heap.size, 0, none⟩ 3 3 [.int .i64 y1, .int .i64 y2, .int .i64 y3] hx rfl ?_ ?_ ?_ ?_ ?_ ?_
  · intro j u hj
    match j, hj with
    | 0, hj => simp at hj; subst hj; simp [Addr.add]
    | 1, hj => simp at hj; subst hj; simp [Addr.add]
    | 2, hj => simp at hj; subst hj; simp [Addr.add]
  · intro u hu; simp at hu; rcases hu with rfl | rfl | rfl <;> rfl
  · unfold maxLen; omega
  · omega
  · simp; omega
  · intro v' w' hown' hgrow _
    have r1 : Row e base w' v' (xs ++ [y1, y2, y3]) := by simpa [Row] using hown'
    refine h v' w' r1 ((hnx.alloc (by omega) _).grown hgrow (by simp; omega) (fun j hj => by have := (hown.lt j hj).1; omega)) ?_
    have := hgrow.size
    simp at this
    omega

set_option maxHeartbeats 1000000 in
theorem copied_at (a : Option Addr) (cap : Nat) (xs : List Int) (w : World) (h : SlOk w a xs) (l1 : xs.length ≤ 4096) :
    Calls Tryd.prog 10 #[.slice a xs.length cap] w fun e w' => ∃ v, e = .returned v ∧ Row 3 w.heap.size w' v (xs ++ [-7, -8, -9]) ∧ Up w w' := by
  obtain ⟨i0, hi, hz0, hz1, hz2⟩ := info_parts infoI
  obtain ⟨L, hL⟩ : ∃ L, xs.length = L := ⟨_, rfl⟩
  have HC : Hid (SlOk w a xs) := h
  have HL : Hid (xs.length = L) := hL
  rw [hL] at l1
  rw [hL]
  clear h hL
  go_enter Tryd.func10, Tryd.ntmps10
  go_wp2_with fail
  go_loopw [3, 4] (fun v i wr => ∃ k : Nat, k ≤ L ∧ i = .int .i64 (k : Int) ∧ Row 3 w.heap.size wr v (xs.take k) ∧ Below w.heap.size w wr) (fun _ i _ => L - (intOf i).toNat)
  case atStart => exact ⟨0, by omega, rfl, by rw [List.take_zero]; exact Row.nil _ _ _, Below.refl _ _⟩
  case round =>
    obtain ⟨k, hk, rfl, hown, hnx⟩ := hrel
    have hsz := hnx.size
    have hl : (xs.take k).length < 1099511627776 := by rw [List.length_take]; omega
    by_cases hlt : (k : Int) < (L : Int)
    · obtain ⟨g, off, rfl, cx0⟩ := HC.out.at (k := k) (by rw [HL.out]; omega)
      have cx : wr.cell? ⟨g, off + k, none⟩ = some (.int .i64 (xs.getD k 0)) := Up.cell hnx cx0
      have TK : Hid (xs.take (k + 1) = xs.take k ++ [xs.getD k 0]) := by
        show xs.take (k + 1) = _
        rw [List.take_add_one, List.getD_eq_getElem?_getD, List.getElem?_eq_getElem (by rw [HL.out]; omega)]; rfl
      generalize xs.getD k 0 = x at *
      clear cx0
      go_wp2_with (at_builtin; refine wpList_push rfl (.tmp 11) (.tmp 16) 33 rfl 3 i0 Tryd.underlying33 hi hz0 hz1 hz2 w.heap.size w.heap.size w _ _ _ rfl hown hnx (Nat.le_refl _) hsz rfl hl ?_; intro v' w1 hown' hnx' hsz')
      go_roundw
      case rel => exact ⟨k + 1, by omega, by go_num, by rw [TK.out]; exact hown', hnx'⟩
      case measure => simp [intOf]; omega
    · obtain rfl : k = L := by omega
      rw [List.take_of_length_le (by rw [HL.out]; omega)] at hown hl
      go_wp2_with (at_builtin; refine wpList_push3 rfl (.tmp 18) (.tmp 19) 33 rfl 3 i0 Tryd.underlying33 hi hz0 hz1 hz2 w.heap.size w.heap.size w _ _ _ _ _ rfl hown hnx (Nat.le_refl _) hsz rfl hl ?_; intro v' w1 hown' hnx' hsz')
      go_ret
      exact ⟨_, rfl, hown', hnx'⟩

/-- The row g holds the numbers F. -/
def IC (g n : Nat) (w : World) (F : Nat → Int) : Prop :=
  ∃ cur : Array Value, w.heap[g]? = some (.cells cur 3 (0, 0)) ∧ n ≤ cur.size ∧ ∀ i, i < n → cur[i]? = some (.int .i64 (F i))
theorem IC.lt {g n : Nat} {w : World} {F : Nat → Int} (h : IC g n w F) : g < w.heap.size := by
  obtain ⟨cur, hg, _⟩ := h; exact (Array.getElem?_eq_some_iff.1 hg).1
theorem IC.cell {g n : Nat} {w : World} {F : Nat → Int} (h : IC g n w F) {i : Nat} (hi : i < n) : w.cell? ⟨g, i, none⟩ = some (.int .i64 (F i)) := by
  obtain ⟨cur, hg, _, hc⟩ := h
  rw [cell_of_row w g i cur _ (0, 0) hg]; exact hc i hi
theorem IC.frozen {g n : Nat} {w : World} {F : Nat → Int} (h : IC g n w F) (i : Nat) : w.frozen? ⟨g, i, none⟩ = false := by
  obtain ⟨cur, hg, _⟩ := h
  simp [World.frozen?, hg]
theorem IC.set {g n : Nat} {w : World} {F : Nat → Int} (h : IC g n w F) {i : Nat} (hi : i < n) (x : Int) : IC g n (w.setCell ⟨g, i, none⟩ (.int .i64 x)) (fun k => if k = i then x else F k) := by
  obtain ⟨cur, hg, hn, hc⟩ := h
  refine ⟨cur.setIfInBounds i (.int .i64 x), heap_setCell_same w g i cur _ _ hg, by simpa using hn, fun k hk => ?_⟩
  show _ = some (Value.int .i64 (if k = i then x else F k))
  by_cases e : k = i
  · subst e; rw [if_pos rfl, Array.getElem?_setIfInBounds_self_of_lt (by omega)]
  · rw [if_neg e, Array.getElem?_setIfInBounds_ne (by omega)]; exact hc k hk
theorem IC.congr {g n : Nat} {w : World} {F F' : Nat → Int} (h : IC g n w F) (e : ∀ i, i < n → F' i = F i) : IC g n w F' := by
  obtain ⟨cur, hg, hn, hc⟩ := h
  exact ⟨cur, hg, hn, fun i hi => by rw [e i hi]; exact hc i hi⟩
theorem IC.below {g n B : Nat} {w w' : World} {F : Nat → Int} (h : IC g n w F) (hb : Below B w w') (hg : g < B) : IC g n w' F := by
  obtain ⟨cur, hg', hn, hc⟩ := h
  exact ⟨cur, by rw [hb.block g hg]; exact hg', hn, hc⟩
theorem IC.drewN {g n : Nat} {w : World} {F : Nat → Int} (h : IC g n w F) (m : Nat) : IC g n (w.drewN m) F := h

/-- A row of the call's own as such cells. -/
theorem Row.ic {base : Nat} {w : World} {v : Value} {xs : List Int} (h : Row 3 base w v xs) (hx : 0 < xs.length) :
    ∃ g cap, v = .slice (some ⟨g, 0, none⟩) xs.length cap ∧ base ≤ g ∧ xs.length ≤ cap ∧ cap ≤ maxLen ∧ IC g xs.length w (fun i => xs.getD i 0) := by
  obtain ⟨g, cap, hv, hb, hlt, hn, hm, hc, _⟩ := Row.arr h hx
  rcases h.2 with ⟨_, h0⟩ | ⟨g', cap', cur, hv', hb', hg, hn', hm', hs, ht⟩
  · omega
  · rw [hv] at hv'
    simp only [Value.slice.injEq, Option.some.injEq, Addr.mk.injEq, and_true, true_and] at hv'
    obtain ⟨rfl, rfl⟩ := hv'
    refine ⟨g, cap, hv, hb, hn, hm, cur, hg, by simp at hs ⊢; omega, fun i hi => ?_⟩
    rw [← cell_of_row w g i cur _ (0, 0) hg]; exact hc i hi

/-- What the list is written over with. -/
def overF (d : Int) (i : Nat) : Int := d + (i : Int)
/-- So far. -/
def mixF (d : Int) (xs : List Int) (k i : Nat) : Int := if i < k then overF d i else (xs ++ [-7, -8, -9]).getD i 0
def overL (d : Int) (k : Nat) : List Int := (List.range k).map (overF d)
theorem overL_succ (d : Int) (k : Nat) : overL d (k + 1) = overL d k ++ [overF d k] := by simp [overL, List.range_succ]
theorem overL_length (d : Int) (k : Nat) : (overL d k).length = k := by simp [overL]
theorem overL_getD (d : Int) (k i : Nat) (h : i < k) : (overL d k).getD i 0 = overF d i := by simp [overL, List.getD_eq_getElem?_getD, h]

theorem slOk_ic {g n : Nat} {w : World} {F : Nat → Int} {ys : List Int} (h : IC g n w F) (hk : ys.length ≤ n) (hb : ys.length ≤ 9223372036854775807) (e : ∀ i, i < ys.length → F i = ys.getD i 0) : SlOk w (some ⟨g, 0, none⟩) ys :=
  ⟨hb, .inr ⟨g, 0, rfl, fun i hi => by rw [Nat.zero_add, ← e i hi]; exact h.cell (by omega)⟩⟩

theorem Row.set {e : TypeId} {base : Nat} {w : World} {v : Value} {xs : List Int} (h : Row e base w v xs) {g i : Nat} (hg : g < base) (x : Value) : Row e base (w.setCell ⟨g, i, none⟩ x) v xs := by
  refine h.kept (row := some g) ⟨rfl, rfl, rfl, Nat.le_of_eq (by simp), fun k _ hk => Below.heap_setCell _ _ _ _ (fun e => hk (by rw [e]))⟩ ?_
  cases hv : v.ownBlock with
  | none => exact .inl rfl
  | some b => right; intro hb; have := (World.ownsRow.lt h b hv).1; have := Option.some.inj hb; omega
/-- 'v = append(v, y)', the new cell's block by its number. -/
theorem wpList_push_at {P : Program} {wr : World} {ops : Array Oper} {rest : List Oper} {o : Oper} {a : Act} {Q : Exit → Act → World → Prop} (hgd : o.guard = none) (s x : Operand) (t : TypeId)
    (ho : o.op = .call { callee := .builtin .append, args := #[s, x], argTypes := #[t, t] })
    (e : TypeId) (i : TypeInfo) (ht : P.underlying t = some (.slice e)) (hi : P.info? e = some i) (hz : i.zero = some (.int .i64 0)) (hsize : i.size = 1) (hby : i.bytes = 8)
    (base B : Nat) (w : World) (v : Value) (xs : List Int) (y : Int) (hs : a.eval s = v) (hown : Row e base wr v xs) (hnx : Below B w wr) (hB : B ≤ base) (hsz : base ≤ wr.heap.size)
    (n : Nat) (hn : wr.heap.size = n) (hx : a.eval x = .slice (some ⟨n, 0, none⟩) 1 1) (hl : xs.length < 1099511627776)
    (h : ∀ v' w', Row e base w' v' (xs ++ [y]) → Below B w w' → base ≤ w'.heap.size → wpList P ops Q rest (a.put o.dst v') w') :
    wpList P ops Q (o :: rest) a (wr.alloc (.cells #[.int .i64 y] e)) := by
  subst hn
  exact wpList_push hgd s x t ho e i ht hi hz hsize hby base B w v xs y hs hown hnx hB hsz hx hl h
theorem size_set (w : World) (a : Addr) (v : Value) : (w.setCell a v).heap.size = w.heap.size := by simp
/-- A row of the call's own, as a slice that is looked through. -/
theorem Row.sl {base : Nat} {w : World} {v : Value} {xs : List Int} (h : Row 3 base w v xs) (hl : xs.length ≤ 9223372036854775807) : ∃ s c, v = .slice s xs.length c ∧ SlOk w s xs := by
  by_cases h0 : 0 < xs.length
  · obtain ⟨g, cap, hv, _, _, _, ic⟩ := Row.ic h h0
    exact ⟨_, _, hv, slOk_ic ic (Nat.le_refl _) hl (fun i _ => rfl)⟩
  · obtain rfl : xs = [] := List.length_eq_zero_iff.1 (by omega)
    rcases h.2 with ⟨hn, _⟩ | ⟨g', cap', cur, hv', _⟩
    · exact ⟨none, 0, hn, hl, .inl rfl⟩
    · exact ⟨_, _, hv', hl, .inl rfl⟩
theorem mixF_low (d : Int) (xs : List Int) (k i : Nat) (h : i < k) : mixF d xs k i = (overL d k).getD i 0 := by
  rw [overL_getD d k i h]; unfold mixF; rw [if_pos h]
theorem mixF_all (d : Int) (xs : List Int) (k i : Nat) (hk : xs.length = k) : mixF d xs k i = (overL d k ++ [-7, -8, -9]).getD i 0 := by
  by_cases h : i < k
  · rw [mixF_low d xs k i h, List.getD_eq_getElem?_getD, List.getD_eq_getElem?_getD, List.getElem?_append_left (by rw [overL_length]; exact h)]
  · unfold mixF
    rw [if_neg h, List.getD_eq_getElem?_getD, List.getD_eq_getElem?_getD, List.getElem?_append_right (by omega), List.getElem?_append_right (by rw [overL_length]; omega), overL_length, hk]
theorem mix_step (d : Int) (xs : List Int) (k i : Nat) : mixF d xs (k + 1) i = if i = k then overF d k else mixF d xs k i := by
  unfold mixF
  by_cases h : i = k
  · subst h; simp
  · rw [if_neg h]
    by_cases g : i < k
    · rw [if_pos g, if_pos (by omega)]
    · rw [if_neg g, if_neg (by omega)]


set_option maxHeartbeats 1000000 in
theorem same_at3 (a a' : Option Addr) (cap cap' : Nat) (xs : List Int) (w : World) (h : SlOk w a xs) (h' : SlOk w a' xs) :
    Calls Tryd.prog 18 #[.slice a xs.length cap, .slice a' xs.length cap'] w fun e w' => e = .returned (.bool true) ∧ ∃ n, w' = w.drewN n := by
  have hl := h.1
  have H : Hid (SlOk w a xs) := h
  have H' : Hid (SlOk w a' xs) := h'
  obtain ⟨L, hL⟩ : ∃ L, xs.length = L := ⟨_, rfl⟩
  have HL : Hid (xs.length = L) := hL
  rw [hL] at hl
  rw [hL]
  clear h h' hL
  go_enter Tryd.func18, Tryd.ntmps18
  go_wp2_with fail
  go_loopw [5] (fun vk wr => ∃ (m k : Nat), wr = w.drewN m ∧ vk = .int .i64 (k : Int) ∧ k ≤ L) (fun vk _ => L - (intOf vk).toNat)
  case atStart => exact ⟨0, 0, rfl, rfl, by omega⟩
  case round =>
    obtain ⟨m, k, rfl, rfl, hk⟩ := hrel
    by_cases hlt : (k : Int) < (L : Int)
    · obtain ⟨g, off, rfl, c0⟩ := H.out.at (k := k) (by rw [HL.out]; omega)
      obtain ⟨g', off', rfl, d0⟩ := H'.out.at (k := k) (by rw [HL.out]; omega)
      generalize xs.getD k 0 = x at *
      go_wp2_with fail
      go_quiet (fail)
      go_wp2_with fail
      go_roundw
      case rel => exact ⟨m + nq, k + 1, by simp, by go_num, by omega⟩
      case measure => simp [intOf]; omega
    · obtain rfl : k = L := by omega
      go_wp2_with fail
      go_ret
      exact ⟨rfl, m, rfl⟩
end Go.Proofs.YtkabfdajpilomabDoor
