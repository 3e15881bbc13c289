/-
  Ours: the law MoneyTotals walked.
-/
import Derived.Test.YtfdahdloihgjeacDoorRefSum
import Derived.Test.YtfdahdloihgjeacDoorSumAt
namespace Go.Proofs.YtfdahdloihgjeacDoor
open Go.RowKit

/-- 'v = append(v, y)' on a row of the call's own, beside another row of another type. -/
theorem wpList_push_beside {P : Program} {wr : World} {ops : Array Oper} {rest : List Oper} {o : Oper} {a : Act} {Q : Exit → Act → World → Prop} (hgd : o.guard = none) (s x : Operand) (t : TypeId)
    (ho : o.op = .call { callee := .builtin .append, args := #[s, x], argTypes := #[t, t] })
    (e : TypeId) (i : TypeInfo) (ht : P.underlying t = some (.slice e)) (hi : P.info? e = some i) (hz : i.zero = some (.int .i64 0)) (hsize : i.size = 1) (hby : i.bytes = 8)
    (base B : Nat) (w : World) (v : Value) (xs : List Int) (y : Int) (hs : a.eval s = v) (hown : Row e base wr v xs) (hnx : Below B w wr) (hB : B ≤ base) (hsz : base ≤ wr.heap.size)
    (hx : a.eval x = .slice (some ⟨wr.heap.size, 0, none⟩) 1 1) (hl : xs.length < 1099511627776)
    (e2 : TypeId) (v2 : Value) (ys : List Int) (hne : e ≠ e2) (hown2 : Row e2 base wr v2 ys)
    (h : ∀ v' w', Row e base w' v' (xs ++ [y]) → Row e2 base w' v2 ys → Below B w w' → base ≤ w'.heap.size → wpList P ops Q rest (a.put o.dst v') w') :
    wpList P ops Q (o :: rest) a (wr.alloc (.cells #[.int .i64 y] e)) := by
  refine wpList_append_own _ hgd s x t ho base e i (.int .i64 0) 1 8 ht hi hz hsize hby rfl (by decide) v xs.length (xs.map (Value.int .i64)) hs (World.ownsRow.alloc hown _) ⟨wr.heap.size, 0, none⟩ 1 1 [.int .i64 y] hx rfl ?_ ?_ ?_ ?_ ?_ ?_
  · intro j u hj
    match j, hj with
    | 0, hj => simp at hj; subst hj; simp [Addr.add]
  · intro u hu; simp at hu; subst hu; rfl
  · unfold maxLen; omega
  · omega
  · simp; omega
  · intro v' w' hown' hgrow _
    obtain ⟨r1, r2, r3⟩ := Row.push hown hnx hB hsz hown' hgrow
    refine h v' w' r1 ?_ r2 r3
    refine (World.ownsRow.alloc hown2 _).kept hgrow ?_
    rcases hown.2 with ⟨rfl, _⟩ | ⟨g, cap, cur, rfl, _, hg, _⟩
    · cases hv : v2.ownBlock <;> simp [Value.ownBlock]
    · rcases hown2.2 with ⟨rfl, _⟩ | ⟨g2, cap2, cur2, rfl, _, hg2, _⟩
      · left; rfl
      · right
        simp only [Value.ownBlock, ne_eq, Option.some.injEq]
        rintro rfl
        rw [hg] at hg2
        simp at hg2
        exact hne hg2.2

theorem Tryd.info47 : (Tryd.prog.info? 47).map (fun i => (i.zero, i.size, i.bytes)) = some (some (.int .i64 0), 1, 8) := by kernel_rfl
theorem Tryd.info48 : (Tryd.prog.info? 48).map (fun i => (i.zero, i.size, i.bytes)) = some (some (.int .i64 0), 1, 8) := by kernel_rfl

set_option maxRecDepth 10000 in
set_option maxHeartbeats 2000000 in
theorem totals_full (xs : List Int) (g o cap : Nat) (w : World) (hx : I64 xs) (h0 : 0 < xs.length) (hl : xs.length ≤ 4096) (hcap : xs.length ≤ cap) (hg : g < w.heap.size)
    (hc : ∀ i, i < xs.length → w.cell? ⟨g, o + i, none⟩ = some (.int .i64 (xs.getD i 0))) :
    Calls Tryd.prog 10 #[.slice (some ⟨g, o, none⟩) xs.length cap] w fun e w' => e = .returned (.bool true) ∧ Below w.heap.size w w' := by
  obtain ⟨i1, hi1, ha0, ha1, ha2⟩ := info_parts Tryd.info47
  obtain ⟨i2, hi2, hb0, hb1, hb2⟩ := info_parts Tryd.info48
  have RD : Hid (Reads w (.slice (some ⟨g, o, none⟩) xs.length cap) xs) := .inr ⟨h0, g, o, cap, rfl, hcap, hg, hc⟩
  have c1 : Hid (∀ w v, Reads w v xs → Calls Tryd.prog 30 #[v] w fun e w' => e = .returned (.tuple #[.int .i64 (smV (total xs)), .bool (smOk (total xs))]) ∧ w' = w) := fun w v h => rsum_reads h hx (by omega)
  have c2 : Hid (∀ w v, Reads w v xs → Calls Tryd.prog 31 #[v] w fun e w' => e = .returned (.tuple #[.int .i64 (smV (total xs)), .bool (smOk (total xs))]) ∧ w' = w) := fun w v h => sum_reads h hx (by omega)
  have c3 : Hid (∀ w v, Reads w v xs → Calls Tryd.prog 32 #[v] w fun e w' => e = .returned (.tuple #[.int .i64 (smV (total xs)), .bool (smOk (total xs))]) ∧ w' = w) := fun w v h => sumCents_reads h hx (by omega)
  have c4 : Hid (∀ w v, Reads w v xs → Calls Tryd.prog 33 #[v] w fun e w' => e = .returned (.tuple #[.int .i64 (smV (total xs)), .bool (smOk (total xs))]) ∧ w' = w) := fun w v h => sumCount_reads h hx (by omega)
  have c5 : Hid (∀ w v, Reads w v xs → Calls Tryd.prog 14 #[v] w fun e w' => ∃ v', e = .returned v' ∧ Row 2 w.heap.size w' v' xs ∧ Below w.heap.size w w') := fun w v h => copied_reads h (by omega)
  have c6 : Hid (∀ w v v2, Reads w v xs → Reads w v2 xs → Calls Tryd.prog 18 #[v, v2] w fun e w' => e = .returned (.bool true) ∧ ∃ n, w' = w.drewN n) := fun w v v2 h h2 => same_reads h h2 (by omega)
  obtain ⟨L, hL⟩ : ∃ L, xs.length = L := ⟨_, rfl⟩
  rw [hL] at RD h0 hl hcap hc ⊢
  have HL : Hid (xs.length = L) := hL
  clear hL
  generalize smV (total xs) = V at *
  generalize smOk (total xs) = K at *
  have e1 : (V != V) = false := by simp
  have e2 : (K != K) = false := by simp
  have e3 : (V == V) = true := by simp
  have e4 : (K == K) = true := by simp
  clear hx
  go_enter Tryd.func10, Tryd.ntmps10
  go_wp2_with fail
  refine (c1.out _ _ RD.out).mono ?_
  rintro e w1 ⟨rfl, hw⟩; rw [hw]; clear hw w1
  go_wp2_with fail
  refine (c5.out _ _ RD.out).mono ?_
  rintro e w1 ⟨v1, rfl, r1, b1⟩
  have rd1 : Hid (Reads w1 (.slice (some ⟨g, o, none⟩) L cap) xs) := RD.out.later b1
  have rv1 : Hid (Reads w1 v1 xs) := r1.reads
  clear r1
  go_wp2_with fail
  refine (c2.out _ _ rv1.out).mono ?_
  rintro e w2 ⟨rfl, hw⟩; rw [hw]; clear hw w2
  go_wp2_with fail
  refine (c6.out _ _ _ rv1.out rd1.out).mono ?_
  rintro e w2 ⟨rfl, n, hw⟩; rw [hw]; clear hw w2
  have bn : Below w.heap.size w (w1.drewN n) := b1.trans ⟨rfl, rfl, rfl, Nat.le_refl _, fun _ _ => rfl⟩
  have bsz : w.heap.size ≤ w1.heap.size := b1.size
  clear rd1 rv1 RD c1 c2 c5 c6 b1
  go_wp2
  go_loopw [8, 9, 10] (fun vc vn i wr => ∃ k : Nat, k ≤ L ∧ i = .int .i64 (k : Int) ∧ Row 47 w1.heap.size wr vc (xs.take k) ∧ Row 48 w1.heap.size wr vn (xs.take k) ∧ Below w.heap.size w wr ∧ w1.heap.size ≤ wr.heap.size) (fun _ _ i _ => L - (intOf i).toNat)
  case atStart => exact ⟨0, by omega, rfl, by rw [List.take_zero]; exact Row.nil _ _ _, by rw [List.take_zero]; exact Row.nil _ _ _, bn, Nat.le_refl _⟩
  case round =>
    obtain ⟨k, hk, rfl, hown, hown2, hnx, hsz⟩ := hrel
    by_cases hlt : (k : Int) < (L : Int)
    · have hl2 : (xs.take k).length < 1099511627776 := by rw [List.length_take]; omega
      have cx0 := hc k (by omega)
      have ht : xs.take (k + 1) = xs.take k ++ [xs.getD k 0] := by
        have hh : k < xs.length := by rw [HL.out]; omega
        rw [List.take_add_one, List.getElem?_eq_getElem hh]; simp [List.getD_eq_getElem?_getD, List.getElem?_eq_getElem hh]
      generalize xs.getD k 0 = x at *
      have cx := (hnx.cell (p := ⟨g, o + k, none⟩) hg).trans cx0
      have CX : Hid (w.cell? ⟨g, o + k, none⟩ = some (.int .i64 x)) := cx0
      have HT : Hid (xs.take (k + 1) = xs.take k ++ [x]) := ht
      clear ht hc cx0 bn
      go_wp2_with (first | (at_builtin; refine wpList_push_beside rfl (.tmp 50) (.tmp 55) 45 rfl 47 i1 Tryd.underlying45 hi1 ha0 ha1 ha2 w1.heap.size w.heap.size w _ _ _ rfl hown hnx bsz hsz rfl hl2 48 _ _ (by decide) hown2 ?_; intro v' w2 ho1 ho2 hnx2 hsz2; have cx2 := (hnx2.cell (p := ⟨g, o + k, none⟩) hg).trans CX.out) | (at_builtin; refine wpList_push_beside rfl (.tmp 57) (.tmp 62) 46 rfl 48 i2 Tryd.underlying46 hi2 hb0 hb1 hb2 w1.heap.size w.heap.size w _ _ _ rfl ho2 hnx2 bsz hsz2 rfl hl2 47 _ _ (by decide) ho1 ?_; intro v'' w3 ho3 ho4 hnx3 hsz3))
      go_roundw
      case rel => exact ⟨k + 1, by omega, by go_num, by rw [HT.out]; exact ho4, by rw [HT.out]; exact ho3, hnx3, hsz3⟩
      case measure => simp [intOf]; omega
    · obtain rfl : k = L := by omega
      rw [List.take_of_length_le (by rw [HL.out]; omega)] at hown hown2
      have q1 : Hid (Reads wr _ xs) := hown.reads
      have q2 : Hid (Reads wr _ xs) := hown2.reads
      clear hown hown2 hc bn
      go_wp2_with fail
      refine (c3.out _ _ q1.out).mono ?_
      rintro e w2 ⟨rfl, hw⟩; rw [hw]; clear hw w2
      go_wp2_with fail
      refine (c4.out _ _ q2.out).mono ?_
      rintro e w2 ⟨rfl, hw⟩; rw [hw]; clear hw w2
      go_wp2_with fail
      go_ret
      exact ⟨rfl, hnx⟩

set_option maxRecDepth 10000 in
set_option maxHeartbeats 2000000 in
theorem totals_empty (a : Option Addr) (cap : Nat) (w : World) :
    Calls Tryd.prog 10 #[.slice a 0 cap] w fun e w' => e = .returned (.bool true) ∧ Below w.heap.size w w' := by
  have RD : ∀ w (a : Option Addr) cap, Reads w (.slice a 0 cap) [] := fun w a cap => .inl ⟨rfl, a, cap, rfl⟩
  have zz : ∀ {e : Ending}, e = .returned (.tuple #[.int .i64 (smV (total [])), .bool (smOk (total []))]) → e = .returned (.tuple #[.int .i64 0, .bool true]) := fun h => by rw [h]; exact ret_vk (by decide) (by decide)
  have z64 : I64 [] := fun k => by simp
  have c1 : Hid (∀ a cap w, Calls Tryd.prog 30 #[.slice a 0 cap] w fun e w' => e = .returned (.tuple #[.int .i64 0, .bool true]) ∧ w' = w) := fun a cap w => (rsum_empty a cap w).mono fun e w' ⟨he, hw⟩ => ⟨zz he, hw⟩
  have c2 : Hid (∀ a cap w, Calls Tryd.prog 31 #[.slice a 0 cap] w fun e w' => e = .returned (.tuple #[.int .i64 0, .bool true]) ∧ w' = w) := fun a cap w => (sum_empty a cap w).mono fun e w' ⟨he, hw⟩ => ⟨zz he, hw⟩
  have c3 : Hid (∀ a cap w, Calls Tryd.prog 32 #[.slice a 0 cap] w fun e w' => e = .returned (.tuple #[.int .i64 0, .bool true]) ∧ w' = w) := fun a cap w => (sumCents_empty a cap w).mono fun e w' ⟨he, hw⟩ => ⟨zz he, hw⟩
  have c4 : Hid (∀ a cap w, Calls Tryd.prog 33 #[.slice a 0 cap] w fun e w' => e = .returned (.tuple #[.int .i64 0, .bool true]) ∧ w' = w) := fun a cap w => (sumCount_empty a cap w).mono fun e w' ⟨he, hw⟩ => ⟨zz he, hw⟩
  have c5 : Hid (∀ a cap w, Calls Tryd.prog 14 #[.slice a 0 cap] w fun e w' => e = .returned (.slice none 0 0) ∧ w' = w) := copied_empty
  have c6 : Hid (∀ (a a2 : Option Addr) cap cap2 w, Calls Tryd.prog 18 #[.slice a 0 cap, .slice a2 0 cap2] w fun e w' => e = .returned (.bool true) ∧ ∃ n, w' = w.drewN n) := same_empty
  clear RD zz z64
  go_enter Tryd.func10, Tryd.ntmps10
  go_wp2_with fail
  refine (c1.out _ _ _).mono ?_
  rintro e w1 ⟨rfl, hw⟩; rw [hw]; clear hw w1
  go_wp2_with fail
  refine (c5.out _ _ _).mono ?_
  rintro e w1 ⟨rfl, hw⟩; rw [hw]; clear hw w1
  go_wp2_with fail
  refine (c2.out _ _ _).mono ?_
  rintro e w1 ⟨rfl, hw⟩; rw [hw]; clear hw w1
  go_wp2_with fail
  refine (c6.out _ _ _ _ _).mono ?_
  rintro e w1 ⟨rfl, n, hw⟩; rw [hw]; clear hw w1
  have bn : Below w.heap.size w (w.drewN n) := ⟨rfl, rfl, rfl, Nat.le_refl _, fun _ _ => rfl⟩
  go_wp2
  go_loop [8, 9, 10] (fun vc vn i => vc = .slice none 0 0 ∧ vn = .slice none 0 0 ∧ i = .int .i64 0) (fun _ _ _ => 0)
  case atStart => exact ⟨rfl, rfl, rfl⟩
  case round =>
    obtain ⟨rfl, rfl, rfl⟩ := hrel
    go_wp2_with fail
    refine (c3.out _ _ _).mono ?_
    rintro e w2 ⟨rfl, hw⟩; rw [hw]; clear hw w2
    go_wp2_with fail
    refine (c4.out _ _ _).mono ?_
    rintro e w2 ⟨rfl, hw⟩; rw [hw]; clear hw w2
    go_wp2_with fail
    go_ret
    exact ⟨rfl, bn⟩

theorem totals_long (a : Option Addr) (len cap : Nat) (w : World) (h : 4096 < len) (hl : len ≤ 9223372036854775807) :
    Calls Tryd.prog 10 #[.slice a len cap] w fun e w' => e = .returned (.bool true) ∧ Below w.heap.size w w' := by
  have h' : (4096 : Int) < (len : Int) := by omega
  go_enter Tryd.func10, Tryd.ntmps10
  go_wp2
  go_ret
  exact ⟨rfl, Below.refl _ _⟩

end Go.Proofs.YtfdahdloihgjeacDoor
