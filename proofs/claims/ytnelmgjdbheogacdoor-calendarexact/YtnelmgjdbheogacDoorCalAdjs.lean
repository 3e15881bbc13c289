/-
  Ours: the walk of CalendarAdjusts.
-/
import Derived.Test.YtnelmgjdbheogacDoorCalMark
namespace Go.Proofs.YtnelmgjdbheogacDoor
open Go.RowKit CalM

/-- The row g holds the numbers F. -/
def IC (g n : Nat) (w : World) (F : Nat → Int) : Prop :=
  ∃ cur : Array Value, w.heap[g]? = some (.cells cur 3 (0, 0)) ∧ n ≤ cur.size ∧ ∀ i, i < n → cur[i]? = some (.int .i64 (F i))
theorem IC.lt {g n : Nat} {w : World} {F : Nat → Int} (h : IC g n w F) : g < w.heap.size := by
  obtain ⟨cur, hg, _⟩ := h; exact (Array.getElem?_eq_some_iff.1 hg).1
theorem IC.cell {g n : Nat} {w : World} {F : Nat → Int} (h : IC g n w F) {i : Nat} (hi : i < n) : w.cell? ⟨g, i, none⟩ = some (.int .i64 (F i)) := by
  obtain ⟨cur, hg, _, hc⟩ := h
  rw [cell_of_row w g i cur _ (0, 0) hg]; exact hc i hi
theorem IC.frozen {g n : Nat} {w : World} {F : Nat → Int} (h : IC g n w F) (i : Nat) : w.frozen? ⟨g, i, none⟩ = false := by
  obtain ⟨cur, hg, _⟩ := h
  simp [World.frozen?, hg]
theorem IC.set {g n : Nat} {w : World} {F : Nat → Int} (h : IC g n w F) {i : Nat} (hi : i < n) (x : Int) : IC g n (w.setCell ⟨g, i, none⟩ (.int .i64 x)) (fun k => if k = i then x else F k) := by
  obtain ⟨cur, hg, hn, hc⟩ := h
  refine ⟨cur.setIfInBounds i (.int .i64 x), heap_setCell_same w g i cur _ _ hg, by simpa using hn, fun k hk => ?_⟩
  show _ = some (Value.int .i64 (if k = i then x else F k))
  by_cases e : k = i
  · subst e; rw [if_pos rfl, Array.getElem?_setIfInBounds_self_of_lt (by omega)]
  · rw [if_neg e, Array.getElem?_setIfInBounds_ne (by omega)]; exact hc k hk
theorem IC.congr {g n : Nat} {w : World} {F F' : Nat → Int} (h : IC g n w F) (e : ∀ i, i < n → F' i = F i) : IC g n w F' := by
  obtain ⟨cur, hg, hn, hc⟩ := h
  exact ⟨cur, hg, hn, fun i hi => by rw [e i hi]; exact hc i hi⟩
theorem IC.below {g n B : Nat} {w w' : World} {F : Nat → Int} (h : IC g n w F) (hb : Below B w w') (hg : g < B) : IC g n w' F := by
  obtain ⟨cur, hg', hn, hc⟩ := h
  exact ⟨cur, by rw [hb.block g hg]; exact hg', hn, hc⟩
theorem IC.drewN {g n : Nat} {w : World} {F : Nat → Int} (h : IC g n w F) (m : Nat) : IC g n (w.drewN m) F := h

/-- A row of the call's own as such cells. -/
theorem Row.ic {base : Nat} {w : World} {v : Value} {xs : List Int} (h : Row 3 base w v xs) (hx : 0 < xs.length) :
    ∃ g cap, v = .slice (some ⟨g, 0, none⟩) xs.length cap ∧ base ≤ g ∧ xs.length ≤ cap ∧ cap ≤ maxLen ∧ IC g xs.length w (fun i => xs.getD i 0) := by
  obtain ⟨g, cap, hv, hb, hlt, hn, hm, hc, _⟩ := Row.arr h hx
  rcases h.2 with ⟨_, h0⟩ | ⟨g', cap', cur, hv', hb', hg, hn', hm', hs, ht⟩
  · omega
  · rw [hv] at hv'
    simp only [Value.slice.injEq, Option.some.injEq, Addr.mk.injEq, and_true, true_and] at hv'
    obtain ⟨rfl, rfl⟩ := hv'
    refine ⟨g, cap, hv, hb, hn, hm, cur, hg, by simp at hs ⊢; omega, fun i hi => ?_⟩
    rw [← cell_of_row w g i cur _ (0, 0) hg]; exact hc i hi

/-- What the list is written over with. -/
def overF (d : Int) (i : Nat) : Int := wrap64 (d + (i : Int))
/-- So far. -/
def mixF (d : Int) (xs : List Int) (k i : Nat) : Int := if i < k then overF d i else (xs ++ [-71, -72, -73]).getD i 0
def overL (d : Int) (k : Nat) : List Int := (List.range k).map (overF d)
theorem overL_succ (d : Int) (k : Nat) : overL d (k + 1) = overL d k ++ [overF d k] := by simp [overL, List.range_succ]
theorem overL_length (d : Int) (k : Nat) : (overL d k).length = k := by simp [overL]
theorem overL_getD (d : Int) (k i : Nat) (h : i < k) : (overL d k).getD i 0 = overF d i := by simp [overL, List.getD_eq_getElem?_getD, h]

theorem slOk_ic {g n : Nat} {w : World} {F : Nat → Int} {ys : List Int} (h : IC g n w F) (hk : ys.length ≤ n) (hb : ys.length ≤ 9223372036854775807) (e : ∀ i, i < ys.length → F i = ys.getD i 0) : SlOk w (some ⟨g, 0, none⟩) ys :=
  ⟨hb, .inr ⟨g, 0, rfl, fun i hi => by rw [Nat.zero_add, ← e i hi]; exact h.cell (by omega)⟩⟩

theorem Row.set {e : TypeId} {base : Nat} {w : World} {v : Value} {xs : List Int} (h : Row e base w v xs) {g i : Nat} (hg : g < base) (x : Value) : Row e base (w.setCell ⟨g, i, none⟩ x) v xs := by
  refine h.kept (row := some g) ⟨rfl, rfl, rfl, Nat.le_of_eq (by simp), fun k _ hk => Below.heap_setCell _ _ _ _ (fun e => hk (by rw [e]))⟩ ?_
  cases hv : v.ownBlock with
  | none => exact .inl rfl
  | some b => right; intro hb; have := (World.ownsRow.lt h b hv).1; have := Option.some.inj hb; omega
/-- 'v = append(v, y)', the new cell's block by its number. -/
theorem wpList_push_at {P : Program} {wr : World} {ops : Array Oper} {rest : List Oper} {o : Oper} {a : Act} {Q : Exit → Act → World → Prop} (hgd : o.guard = none) (s x : Operand) (t : TypeId)
    (ho : o.op = .call { callee := .builtin .append, args := #[s, x], argTypes := #[t, t] })
    (e : TypeId) (i : TypeInfo) (ht : P.underlying t = some (.slice e)) (hi : P.info? e = some i) (hz : i.zero = some (.int .i64 0)) (hsize : i.size = 1) (hby : i.bytes = 8)
    (base B : Nat) (w : World) (v : Value) (xs : List Int) (y : Int) (hs : a.eval s = v) (hown : Row e base wr v xs) (hnx : Below B w wr) (hB : B ≤ base) (hsz : base ≤ wr.heap.size)
    (n : Nat) (hn : wr.heap.size = n) (hx : a.eval x = .slice (some ⟨n, 0, none⟩) 1 1) (hl : xs.length < 1099511627776)
    (h : ∀ v' w', Row e base w' v' (xs ++ [y]) → Below B w w' → base ≤ w'.heap.size → wpList P ops Q rest (a.put o.dst v') w') :
    wpList P ops Q (o :: rest) a (wr.alloc (.cells #[.int .i64 y] e)) := by
  subst hn
  exact wpList_push hgd s x t ho e i ht hi hz hsize hby base B w v xs y hs hown hnx hB hsz hx hl h
theorem size_set (w : World) (a : Addr) (v : Value) : (w.setCell a v).heap.size = w.heap.size := by simp
/-- A row of the call's own, as a slice that is looked through. -/
theorem Row.sl {base : Nat} {w : World} {v : Value} {xs : List Int} (h : Row 3 base w v xs) (hl : xs.length ≤ 9223372036854775807) : ∃ s c, v = .slice s xs.length c ∧ SlOk w s xs := by
  by_cases h0 : 0 < xs.length
  · obtain ⟨g, cap, hv, _, _, _, ic⟩ := Row.ic h h0
    exact ⟨_, _, hv, slOk_ic ic (Nat.le_refl _) hl (fun i _ => rfl)⟩
  · obtain rfl : xs = [] := List.length_eq_zero_iff.1 (by omega)
    rcases h.2 with ⟨hn, _⟩ | ⟨g', cap', cur, hv', _⟩
    · exact ⟨none, 0, hn, hl, .inl rfl⟩
    · exact ⟨_, _, hv', hl, .inl rfl⟩
theorem mixF_low (d : Int) (xs : List Int) (k i : Nat) (h : i < k) : mixF d xs k i = (overL d k).getD i 0 := by
  rw [overL_getD d k i h]; unfold mixF; rw [if_pos h]
theorem mixF_all (d : Int) (xs : List Int) (k i : Nat) (hk : xs.length = k) : mixF d xs k i = (overL d k ++ [-71, -72, -73]).getD i 0 := by
  by_cases h : i < k
  · rw [mixF_low d xs k i h, List.getD_eq_getElem?_getD, List.getD_eq_getElem?_getD, List.getElem?_append_left (by rw [overL_length]; exact h)]
  · unfold mixF
    rw [if_neg h, List.getD_eq_getElem?_getD, List.getD_eq_getElem?_getD, List.getElem?_append_right (by omega), List.getElem?_append_right (by rw [overL_length]; omega), overL_length, hk]
theorem mix_step (d : Int) (xs : List Int) (k i : Nat) : mixF d xs (k + 1) i = if i = k then overF d k else mixF d xs k i := by
  unfold mixF
  by_cases h : i = k
  · subst h; simp
  · rw [if_neg h]
    by_cases g : i < k
    · rw [if_pos g, if_pos (by omega)]
    · rw [if_neg g, if_neg (by omega)]

set_option maxRecDepth 100000 in
set_option maxHeartbeats 4000000 in
theorem adjs_in (a : Option Addr) (cap : Nat) (xs : List Int) (day rule : Int) (l1 : xs.length ≤ 4096) (w : World) (hA : TabA w) (hS : SlOk w a xs) :
    Calls Tryd.prog 21 #[.int .i64 day, .slice a xs.length cap, .int .i64 rule] w fun e w' => e = .returned (.bool true) ∧ Up w w' := by
  obtain ⟨i0, hi, hz0, hz1, hz2⟩ := info_parts infoI
  have MK : Hid (Calls Tryd.prog 38 #[.slice a xs.length cap] w fun e w' => ∃ v, e = .returned v ∧ Row 3 w.heap.size w' v (xs ++ [-71, -72, -73]) ∧ Up w w') := marked_at a cap xs w hS l1
  have BU : Hid (∀ (ys : List Int) (s : Option Addr) (c : Nat) (w : World), SlOk w s ys → Calls Tryd.prog 39 #[.int .i64 day, .slice s ys.length c] w fun e w' => e = .returned (.bool (workB day ys)) ∧ w' = w) := fun ys s c w h => business_at s c ys day w h _ rfl
  have RB : Hid (∀ (ys : List Int) (s : Option Addr) (c : Nat) (w : World), SlOk w s ys → Calls Tryd.prog 40 #[.int .i64 day, .slice s ys.length c] w fun e w' => e = .returned (.bool (workB day ys)) ∧ w' = w) := fun ys s c w h => refBusiness_at s c ys day w h _ rfl
  have AJ : Hid (∀ (ys : List Int) (s : Option Addr) (c : Nat) (w : World), TabA w → SlOk w s ys → Calls Tryd.prog 41 #[.int .i64 day, .slice s ys.length c, .int .i64 rule] w fun e w' => e = .returned (.tuple #[.int .i64 (optN (adjO day ys rule)), .bool (adjO day ys rule).isSome]) ∧ Up w w') := fun ys s c w hA h => adjust_at s c ys day rule _ rfl w hA h
  have RA : Hid (∀ (ys : List Int) (s : Option Addr) (c : Nat) (w : World), SlOk w s ys → Calls Tryd.prog 42 #[.int .i64 day, .slice s ys.length c, .int .i64 rule] w fun e w' => e = .returned (.tuple #[.int .i64 (optN (adjO day ys rule)), .bool (adjO day ys rule).isSome]) ∧ Up w w') := fun ys s c w h => refAdjust_at s c ys day rule _ rfl w h
  have HA : Hid (TabA w) := hA
  have HS : Hid (SlOk w a xs) := hS
  obtain ⟨L, hL⟩ : ∃ L, xs.length = L := ⟨_, rfl⟩
  have HL : Hid (xs.length = L) := hL
  rw [hL] at l1 MK
  have B1 := fun s c w h => BU.out xs s c w h
  have B2 := fun s c w h => RB.out xs s c w h
  have J1 := fun s c w hA h => AJ.out xs s c w hA h
  have J2 := fun s c w h => RA.out xs s c w h
  rw [hL] at B1 B2 J1 J2
  rw [hL]
  have HB1 : Hid (∀ (s : Option Addr) (c : Nat) (w : World), SlOk w s xs → Calls Tryd.prog 39 #[.int .i64 day, .slice s L c] w fun e w' => e = .returned (.bool (workB day xs)) ∧ w' = w) := B1
  have HB2 : Hid (∀ (s : Option Addr) (c : Nat) (w : World), SlOk w s xs → Calls Tryd.prog 40 #[.int .i64 day, .slice s L c] w fun e w' => e = .returned (.bool (workB day xs)) ∧ w' = w) := B2
  have HJ1 : Hid (∀ (s : Option Addr) (c : Nat) (w : World), TabA w → SlOk w s xs → Calls Tryd.prog 41 #[.int .i64 day, .slice s L c, .int .i64 rule] w fun e w' => e = .returned (.tuple #[.int .i64 (optN (adjO day xs rule)), .bool (adjO day xs rule).isSome]) ∧ Up w w') := J1
  have HJ2 : Hid (∀ (s : Option Addr) (c : Nat) (w : World), SlOk w s xs → Calls Tryd.prog 42 #[.int .i64 day, .slice s L c, .int .i64 rule] w fun e w' => e = .returned (.tuple #[.int .i64 (optN (adjO day xs rule)), .bool (adjO day xs rule).isSome]) ∧ Up w w') := J2
  clear hA hS hL B1 B2 J1 J2
  go_enter Tryd.func21, Tryd.ntmps21
  go_wp2_with fail
  refine (MK.out).mono ?_
  rintro e w1 ⟨v, rfl, hrow, U1⟩
  obtain ⟨g, capg, hv, hg, hc1, hc2, ic⟩ := Row.ic hrow (by simp)
  have l3 : (xs ++ [-71, -72, -73]).length = L + 3 := by simp [HL.out]
  rw [l3] at hv hc1 ic
  subst hv
  have IC1 : Hid (IC g (L + 3) w1 (fun i => (xs ++ [-71, -72, -73]).getD i 0)) := ic
  have HA1 : Hid (TabA w1) := HA.out.up U1
  have HS1 : Hid (SlOk w1 a xs) := HS.out.up U1
  have UU1 : Hid (Up w w1) := U1
  have HG : Hid (w.heap.size ≤ g) := hg
  have SG1 : Hid (SlOk w1 (some ⟨g, 0, none⟩) xs) := slOk_ic ic (by rw [HL.out]; omega) (by rw [HL.out]; omega) (fun i hi => by
    show (xs ++ [-71, -72, -73]).getD i 0 = _
    rw [List.getD_eq_getElem?_getD, List.getElem?_append_left hi, ← List.getD_eq_getElem?_getD])
  unfold maxLen at hc2
  clear hrow U1 ic hg MK l3
  go_wp2_with fail
  refine (HB1.out _ _ _ SG1.out).mono ?_
  rintro e w2 ⟨rfl, hw⟩; rw [hw]; clear hw w2
  go_wp2_with fail
  refine (HB2.out _ _ _ HS1.out).mono ?_
  rintro e w2 ⟨rfl, hw⟩; rw [hw]; clear hw w2
  go_wp2_with fail
  refine (HJ1.out _ _ _ HA1.out SG1.out).mono ?_
  rintro e w2 ⟨rfl, U2⟩
  have HS2 : Hid (SlOk w2 a xs) := HS1.out.up U2
  have UU2 : Hid (Up w w2) := UU1.out.trans U2
  have IC2 : Hid (IC g (L + 3) w2 (fun i => (xs ++ [-71, -72, -73]).getD i 0)) := IC1.out.below U2 IC1.out.lt
  clear U2 IC1 UU1 HS1 SG1
  go_wp2_with fail
  refine (HJ2.out _ _ _ HS2.out).mono ?_
  rintro e w3 ⟨rfl, U3⟩
  have HS3 : Hid (SlOk w3 a xs) := HS2.out.up U3
  have UU3 : Hid (Up w w3) := UU2.out.trans U3
  have IC3 : Hid (IC g (L + 3) w3 (fun i => (xs ++ [-71, -72, -73]).getD i 0)) := IC2.out.below U3 IC2.out.lt
  have ST3 : Hid (Calls Tryd.prog 43 #[.slice (some ⟨g, 0, none⟩) (L + 3) capg, .slice a L cap] w3 fun e w' => e = .returned (.bool true) ∧ ∃ n, w' = w3.drewN n) := by
    have := still_at g capg cap a xs w3 (slOk_ic IC3.out (by simp [HL.out]) (by simp [HL.out]; omega) (fun i _ => rfl)) HS3.out (by rw [HL.out]; omega)
    rw [HL.out] at this; exact this
  clear U3 IC2 UU2 HS2 HB1 HB2 HJ1 HJ2
  go_wp2_with fail
  refine (ST3.out).mono ?_
  rintro e w4 ⟨rfl, n4, hw⟩; rw [hw]; clear hw w4
  go_wp2_with fail
  have UU4 : Hid (Up w (w3.drewN n4)) := up_drewN UU3.out n4
  have IC4 : Hid (IC g (L + 3) (w3.drewN n4) (fun i => (xs ++ [-71, -72, -73]).getD i 0)) := IC3.out
  clear ST3 IC3 UU3 HS3
  generalize w3.drewN n4 = W at *
  go_loopw [12, 13] (fun v i wr => ∃ k : Nat, k ≤ L ∧ i = .int .i64 (k : Int) ∧ Hid (IC g (L + 3) wr (mixF (bits BinOp.and IntKind.i64 day 16777215) xs k)) ∧ Row 3 W.heap.size wr v (overL (bits BinOp.and IntKind.i64 day 16777215) k) ∧ Below w.heap.size w wr ∧ W.heap.size ≤ wr.heap.size) (fun _ i _ => L - (intOf i).toNat)
  case atStart => exact ⟨0, by omega, rfl, IC4.out.congr (fun i _ => by simp [mixF]), Row.nil _ _ _, UU4.out, Nat.le_refl _⟩
  case round =>
    obtain ⟨k, hk, rfl, hic, hown, hnx, hsz⟩ := hrel
    by_cases hlt : (k : Int) < (L : Int)
    · have lt3 : (k : Int) < (L : Int) + 3 := by omega
      have ck := hic.out.cell (i := k) (by omega)
      have fz := hic.out.frozen k
      have gW : Hid (g < W.heap.size) := IC4.out.lt
      have wW : Hid (w.heap.size ≤ W.heap.size) := Below.size UU4.out
      have ROWS : Hid (Row 3 W.heap.size (wr.setCell ⟨g, k, none⟩ (.int .i64 (wrap64 (bits BinOp.and IntKind.i64 day 16777215 + (k : Int))))) u12 (overL (bits BinOp.and IntKind.i64 day 16777215) k)) := hown.set gW.out _
      have SZ : Hid (W.heap.size ≤ (wr.setCell ⟨g, k, none⟩ (.int .i64 (wrap64 (bits BinOp.and IntKind.i64 day 16777215 + (k : Int))))).heap.size) := by show W.heap.size ≤ _; simp; exact hsz
      have LO : Hid ((overL (bits BinOp.and IntKind.i64 day 16777215) k).length < 1099511627776) := by show _ < _; rw [overL_length]; omega
      go_wp2_with (at_builtin; refine wpList_push_at rfl (.tmp 73) (.tmp 78) 29 rfl 3 i0 Tryd.underlying29 hi hz0 hz1 hz2 W.heap.size W.heap.size (wr.setCell ⟨g, k, none⟩ (.int .i64 (wrap64 (bits BinOp.and IntKind.i64 day 16777215 + (k : Int))))) _ _ _ rfl ROWS.out (Below.refl _ _) (Nat.le_refl _) SZ.out wr.heap.size (size_set _ _ _) rfl LO.out ?_; intro v' w5 hown' hnx' hsz')
      have IC5 : Hid (IC g (L + 3) w5 (mixF (bits BinOp.and IntKind.i64 day 16777215) xs (k + 1))) := ((hic.out.set (i := k) (by omega) _).below hnx' gW.out).congr (fun i _ => mix_step _ _ _ _)
      have UU5 : Hid (Below w.heap.size w w5) := (hnx.setCell (p := ⟨g, k, none⟩) HG.out _).trans (hnx'.mono wW.out)
      have RO5 : Hid (Row 3 W.heap.size w5 v' (overL (bits BinOp.and IntKind.i64 day 16777215) (k + 1))) := by rw [overL_succ]; exact hown'
      go_roundw
      case rel => exact ⟨k + 1, by omega, by go_num, IC5.out, RO5.out, UU5.out, hsz'⟩
      case measure => simp [intOf]; omega
    · obtain rfl : k = L := by omega
      obtain ⟨s, c, rfl, so⟩ := Row.sl hown (by rw [overL_length]; omega)
      rw [overL_length]
      have HSo : Hid (SlOk wr s (overL (bits BinOp.and IntKind.i64 day 16777215) k)) := so
      have HSg : Hid (SlOk wr (some ⟨g, 0, none⟩) (overL (bits BinOp.and IntKind.i64 day 16777215) k)) := slOk_ic hic.out (by rw [overL_length]; omega) (by rw [overL_length]; omega) (fun i hi => mixF_low _ _ _ _ (by rw [overL_length] at hi; exact hi))
      have HAr : Hid (TabA wr) := HA.out.up hnx
      have HUr : Hid (Up w wr) := hnx
      have YL : Hid ((overL (bits BinOp.and IntKind.i64 day 16777215) k).length = k) := overL_length _ _
      have MA : Hid (∀ i, mixF (bits BinOp.and IntKind.i64 day 16777215) xs k i = (overL (bits BinOp.and IntKind.i64 day 16777215) k ++ [-71, -72, -73]).getD i 0) := fun i => mixF_all _ _ _ _ HL.out
      clear hown so hnx hsz IC4 UU4
      generalize overL (bits BinOp.and IntKind.i64 day 16777215) k = ys at *
      generalize mixF (bits BinOp.and IntKind.i64 day 16777215) xs k = F at *
      have B1 := fun s c w h => BU.out ys s c w h
      have B2 := fun s c w h => RB.out ys s c w h
      have J1 := fun s c w hA h => AJ.out ys s c w hA h
      have J2 := fun s c w h => RA.out ys s c w h
      rw [YL.out] at B1 B2 J1 J2
      have HB1 : Hid (∀ (s : Option Addr) (c : Nat) (w : World), SlOk w s ys → Calls Tryd.prog 39 #[.int .i64 day, .slice s k c] w fun e w' => e = .returned (.bool (workB day ys)) ∧ w' = w) := B1
      have HB2 : Hid (∀ (s : Option Addr) (c : Nat) (w : World), SlOk w s ys → Calls Tryd.prog 40 #[.int .i64 day, .slice s k c] w fun e w' => e = .returned (.bool (workB day ys)) ∧ w' = w) := B2
      have HJ1 : Hid (∀ (s : Option Addr) (c : Nat) (w : World), TabA w → SlOk w s ys → Calls Tryd.prog 41 #[.int .i64 day, .slice s k c, .int .i64 rule] w fun e w' => e = .returned (.tuple #[.int .i64 (optN (adjO day ys rule)), .bool (adjO day ys rule).isSome]) ∧ Up w w') := J1
      have HJ2 : Hid (∀ (s : Option Addr) (c : Nat) (w : World), SlOk w s ys → Calls Tryd.prog 42 #[.int .i64 day, .slice s k c, .int .i64 rule] w fun e w' => e = .returned (.tuple #[.int .i64 (optN (adjO day ys rule)), .bool (adjO day ys rule).isSome]) ∧ Up w w') := J2
      clear B1 B2 J1 J2 BU RB AJ RA
      go_wp2_with fail
      refine (HB1.out _ _ _ HSg.out).mono ?_
      rintro e w5 ⟨rfl, hw⟩; rw [hw]; clear hw w5
      go_wp2_with fail
      refine (HB2.out _ _ _ HSo.out).mono ?_
      rintro e w5 ⟨rfl, hw⟩; rw [hw]; clear hw w5
      go_wp2_with fail
      refine (HJ1.out _ _ _ HAr.out HSg.out).mono ?_
      rintro e w6 ⟨rfl, U6⟩
      have HSo6 : Hid (SlOk w6 s ys) := HSo.out.up U6
      have UU6 : Hid (Up w w6) := HUr.out.trans U6
      have IC6 : Hid (IC g (k + 3) w6 F) := hic.out.below U6 hic.out.lt
      clear U6
      go_wp2_with fail
      refine (HJ2.out _ _ _ HSo6.out).mono ?_
      rintro e w7 ⟨rfl, U7⟩
      have HSo7 : Hid (SlOk w7 s ys) := HSo6.out.up U7
      have UU7 : Hid (Up w w7) := UU6.out.trans U7
      have IC7 : Hid (IC g (k + 3) w7 F) := IC6.out.below U7 IC6.out.lt
      clear U7
      have ST7 : Hid (∀ c, Calls Tryd.prog 43 #[.slice (some ⟨g, 0, none⟩) (k + 3) capg, .slice s k c] w7 fun e w' => e = .returned (.bool true) ∧ ∃ n, w' = w7.drewN n) := fun c => by
        have := still_at g capg c s ys w7 (slOk_ic IC7.out (by simp [YL.out]) (by simp [YL.out]; omega) (fun i _ => MA.out i)) HSo7.out (by rw [YL.out]; omega)
        rw [YL.out] at this; exact this
      go_wp2_with fail
      refine (ST7.out _).mono ?_
      rintro e w8 ⟨rfl, n8, hw⟩; rw [hw]; clear hw w8
      go_wp2_with fail
      go_ret
      exact ⟨rfl, up_drewN UU7.out n8⟩

theorem adjs_walk (a : Option Addr) (cap : Nat) (xs : List Int) (day : Int) (_ : -9223372036854775808 ≤ day) (_ : day ≤ 9223372036854775807) (rule : Int) (_ : -9223372036854775808 ≤ rule) (_ : rule ≤ 9223372036854775807) (w : World) (hA : TabA w) (hS : SlOk w a xs) :
    Calls Tryd.prog 21 #[.int .i64 day, .slice a xs.length cap, .int .i64 rule] w fun e w' => e = .returned (.bool true) ∧ Up w w' := by
  by_cases h : xs.length ≤ 4096
  · exact adjs_in a cap xs day rule h w hA hS
  · have h1 := hS.1
    generalize xs.length = L at *
    go_enter Tryd.func21, Tryd.ntmps21
    go_wp2_with fail
    go_ret
    exact ⟨rfl, Up.refl _⟩
end Go.Proofs.YtnelmgjdbheogacDoor
