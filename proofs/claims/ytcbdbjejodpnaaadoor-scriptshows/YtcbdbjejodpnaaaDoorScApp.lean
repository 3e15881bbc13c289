/-
  Ours: strconv.AppendInt on a row without room whose cells are known (a literal's row), after the library's own contract on a row of the call's own.
-/
import Derived.Test.YtcbdbjejodpnaaaDoorShelf
import Derived.Test.YtcbdbjejodpnaaaDoorWirOwn
import Derived.Lib.AppendIntMem
import Derived.Lib.ItoaMem
import Derived.Lib.Walk
import Derived.BigCall
import Derived.BigGuard
import Derived.Below
namespace Go.Proofs.YtcbdbjejodpnaaaDoor
open Go.RowKit Go.Sort Go.Lib

abbrev TabW (w : World) : Prop := Lib.TabIs Tryd.prog w "internal/strconv.uint64pow10" .u64 Lib.pow10Tab
theorem infoU : (Tryd.prog.info? 5).map (fun i => (i.zero, i.size, i.bytes)) = some (some (.int .u8 0), 1, 1) := by kernel_rfl
theorem underU : Tryd.prog.underlying 33 = some (.slice 5) := by kernel_rfl
theorem underT : Tryd.prog.underlying 9 = some .string := by kernel_rfl
theorem gPw : Tryd.prog.globalNamed "internal/strconv.uint64pow10" = some 0 := by kernel_rfl
theorem tab_below {w w' : World} (h : TabW w) (hb : Below w.heap.size w w') : TabW w' := by
  have h0 := h.cell gPw 0 (by decide)
  exact var?_below hb gPw (World.block_lt_of_cell? _ _ h0) h
theorem tab_under {w w' : World} (h : TabW w) (hb : Below w.heap.size w w') : Lib.TabBelow Tryd.prog w.heap.size w' "internal/strconv.uint64pow10" .u64 Lib.pow10Tab := fun _ hb' => tab_below h (hb.trans hb')

theorem wpList_grow_string {P : Program} {w : World} {ops : Array Oper} {rest : List Oper} {o : Oper} {a : Act} {Q : Exit → Act → World → Prop} (hgd : o.guard = none) (sl x : Operand) (t u : TypeId)
    (ho : o.op = .call { callee := .builtin .append, args := #[sl, x], argTypes := #[t, u] })
    (e : TypeId) (i : TypeInfo) (ht : P.underlying t = some (.slice e)) (hu : P.underlying u = some .string) (hi : P.info? e = some i) (hz : i.zero = some (.int .u8 0))
    (hsize : i.size = 1) (hby : i.bytes = 1)
    (g n : Nat) (xs : List Value) (hs : a.eval sl = .slice (some ⟨g, 0, none⟩) n n) (hxl : xs.length = n) (hc : ∀ j u, xs[j]? = some u → w.cell? ((⟨g, 0, none⟩ : Addr).add j) = some u) (s : ByteArray) (hx : a.eval x = .string s)
    (h0 : 0 < s.size) (h63 : n + s.size ≤ maxLen) (hbytes : n + s.size ≤ 140737488355328)
    (h : ∀ v' w', w'.ownsRow w.heap.size e 1 v' (n + s.size) (xs ++ strCells s) → w.grownBy w' none → wpList P ops Q rest (a.put o.dst v') w') : wpList P ops Q (o :: rest) a w := by
  refine wpList_plain hgd fun K hK => ?_
  have hsmall : n + s.size ≤ 9223372036854775807 := by simp only [maxLen] at h63; omega
  have hlen : (xs ++ strCells s).length = (n + s.size) * 1 := by rw [List.length_append, hxl, strCells_length, Nat.mul_one]
  have hr := run_append_grow_string (P := P) w t u o.type e i (.int .u8 0) ht hu hi hz ⟨g, 0, none⟩ n n xs (by rw [hsize]; simpa using hxl) hc s (by omega) (by omega) (by rw [hby]; exact growslice_fits (by omega) (by omega))
  have hge := grownCap_ge w (n + s.size) n e
  have hcm : grownCap w (n + s.size) n e ≤ maxLen := grownCap_le_maxLen w (n + s.size) n e h63
  have own : (w.drew.alloc (.cells (xs.toArray ++ (strCells s).toArray ++ Builtin.zeroCells (Value.int .u8 0).cells (grownCap w (n + s.size) n e - (n + s.size))) e)).ownsRow w.heap.size e 1
        (.slice (some ⟨w.heap.size, 0, none⟩) (n + s.size) (grownCap w (n + s.size) n e)) (n + s.size) (xs ++ strCells s) := by
    refine ⟨hlen, .inr ⟨w.heap.size, _, _, rfl, Nat.le_refl _, heap_alloc_new w.drew _, hge, hcm, ?_, ?_⟩⟩
    · have hz1 : (Value.int IntKind.u8 0).cells.size = 1 := rfl
      simp only [Array.size_append, List.size_toArray, size_zeroCells, hz1, hxl, strCells_length]
      omega
    · simp only [Array.toList_append, List.append_assoc]
      rw [← List.append_assoc, ← hlen]
      exact List.take_left
  have gr : w.grownBy (w.drew.alloc (.cells (xs.toArray ++ (strCells s).toArray ++ Builtin.zeroCells (Value.int .u8 0).cells (grownCap w (n + s.size) n e - (n + s.size))) e)) none := ⟨rfl, rfl, rfl, by simp, fun k hk _ => heap_alloc_old w.drew _ hk⟩
  unfold Oper.wp execOp
  simp only [ho, resolve, invoke, builtin, Sem.run_bind, Sem.run_pure, Result.andThen_ok, List.map_toArray, List.map_cons, List.map_nil, hs, hx, hr]
  exact hK _ _ (h _ _ own gr)

/-- What an append to a full row leaves. -/
def NewU (w : World) (xs : List Value) (e : Ending) (w' : World) : Prop := ∃ v', e = .returned v' ∧ w'.ownsRow w.heap.size 5 1 v' xs.length xs ∧ Below w.heap.size w w'

set_option maxHeartbeats 6400000 in
set_option maxRecDepth 100000 in
theorem appUint_full (u : Nat) (hu64 : u < 18446744073709551616) (g n : Nat) (xs : List Value) (w : World) (hn : n ≤ 1000) (hxl : xs.length = n) (hc : ∀ j u, xs[j]? = some u → w.cell? ((⟨g, 0, none⟩ : Addr).add j) = some u) (htab : TabW w) :
    Calls Tryd.prog 13 #[.slice (some ⟨g, 0, none⟩) n n, .int .u64 (u : Int), .int .i64 10] w (NewU w (xs ++ Lib.byteCells (Lib.decDigits u))) := by
  obtain ⟨i0, hi, hz0, hz1, hz2⟩ := info_parts infoU
  by_cases hs : u < 100
  · have hlen : (Lib.decDigits u).length ≤ 20 ∧ 0 < (Lib.decDigits u).length := by
      rw [Lib.decDigits_length]
      by_cases h10 : u < 10
      · rw [Lib.nDigits_small h10]; omega
      · rw [Lib.nDigits_big h10, Lib.nDigits_small (show u / 10 < 10 by omega)]; omega
    have hsz : (⟨(Lib.decDigits u).toArray⟩ : ByteArray).size = (Lib.decDigits u).length := by simp [ByteArray.size]
    have h1 : 0 < (⟨(Lib.decDigits u).toArray⟩ : ByteArray).size := by omega
    have h2 : n + (⟨(Lib.decDigits u).toArray⟩ : ByteArray).size ≤ maxLen := by unfold maxLen; omega
    have h3 : n + (⟨(Lib.decDigits u).toArray⟩ : ByteArray).size ≤ 140737488355328 := by omega
    have hs' : (u : Int) < 100 := by omega
    have FIN : Hid (∀ v' w', w'.ownsRow w.heap.size 5 1 v' (n + (⟨(Lib.decDigits u).toArray⟩ : ByteArray).size) (xs ++ strCells ⟨(Lib.decDigits u).toArray⟩) → w.grownBy w' none → NewU w (xs ++ Lib.byteCells (Lib.decDigits u)) (.returned v') w') := fun v' w' o gr => by
      have e1 : strCells ⟨(Lib.decDigits u).toArray⟩ = Lib.byteCells (Lib.decDigits u) := rfl
      rw [e1] at o
      refine ⟨v', rfl, ?_, below_none gr⟩
      rw [List.length_append, hxl, Lib.byteCells_length, ← hsz]
      exact o
    clear hlen
    go_enter Tryd.func13, Tryd.ntmps13
    go_wp2_with (first
      | (go_at_call 14; refine (Tryd.internal_strconv_small u hs _).mono ?_; rintro e w' ⟨rfl, hw⟩; rw [hw]; clear hw w')
      | (at_builtin; refine wpList_grow_string rfl _ _ 33 9 rfl 5 i0 underU underT hi hz0 hz1 hz2 g n xs rfl hxl hc ⟨(Lib.decDigits u).toArray⟩ rfl h1 h2 h3 ?_; intro v' w1 hown' hgrow))
    go_ret
    exact FIN.out _ _ hown' hgrow
  · have hu1 : 1 ≤ u := by omega
    have hs' : ¬ (u : Int) < 100 := by omega
    have hnd20 : Lib.nDigits u ≤ 20 := by have := Lib.numDigits_eq u hu1 hu64; split at this <;> omega
    have hal : Tryd.prog.arrayLen 39 = 24 := by kernel_rfl
    have hsl : ∀ W, (Instr.sliceAt 39 (.pointer (some ⟨w.heap.size, 0, none⟩)) none (some (.int .i64 (Lib.nDigits u : Int))) none).run Tryd.prog W = .ok (.slice (some ⟨w.heap.size, 0, none⟩) (Lib.nDigits u) 24) W := fun W => by
      rw [run_sliceAt_array_h W 39 ⟨w.heap.size, 0, none⟩ (by kernel_rfl) .i64 (Lib.nDigits u : Int) (by omega) (by rw [hal]; omega)]
      go_simp
    have hH0 := Lib.holds_zero0 w 39 (Lib.nDigits u) (by omega)
    have hfmt := Tryd.internal_strconv_formatBase10 w.heap.size 0 24 u (Array.replicate (Lib.nDigits u) 0) (w.alloc (.cells Lib.zeros24 39)) hH0 (by rw [Array.size_replicate]; exact Lib.lt_pow_nDigits u) hu64 (by rw [Array.size_replicate]; omega)
    rw [Array.size_replicate] at hfmt
    have HH0 := Lib.hid hH0
    clear hH0 hal
    go_enter Tryd.func13, Tryd.ntmps13
    go_wp2_with fail
    refine (Tryd.internal_strconv_numDigits u hu1 hu64 _ (Lib.tabIs_alloc htab _)).mono ?_
    rintro e w1 ⟨rfl, hw⟩; rw [hw]; clear hw w1
    go_wp2_with fail
    refine hfmt.mono ?_
    rintro e w' ⟨rfl, k, v', dk, rfl, hF⟩
    have hcells : ∀ j u', (Lib.byteCells (Lib.decDigits u))[j]? = some u' → ((putRow (fun (b : UInt8) => Value.int .u8 (b.toNat : Int)) (w.alloc (.cells Lib.zeros24 39)) w.heap.size 0 dk).drewN k).cell? ((⟨w.heap.size, 0, none⟩ : Addr).add j) = some u' := by
      intro j u' hj
      have hjl : j < (Lib.decDigits u).length := by
        have h5 := (List.getElem?_eq_some_iff.1 hj).1
        rwa [Lib.byteCells_length] at h5
      have e5 : (Lib.byteCells (Lib.decDigits u))[j]? = some (Value.int .u8 ((Lib.decDigits u)[j].toNat : Int)) := by simp [Lib.byteCells, hjl]
      rw [e5] at hj
      cases hj
      rw [Lib.row_is_numeral hF j hjl, Lib.add_plain, World.cell?_drewN]
      exact cell?_putRow (fun (b : UInt8) => Value.int .u8 (b.toNat : Int)) _ w.heap.size 0 _ dk HH0.out (by rw [hF.size, Array.size_replicate]) j (by rw [hF.size]; rw [Lib.decDigits_length] at hjl; exact hjl)
    have UB : Below w.heap.size w ((putRow (fun (b : UInt8) => Value.int .u8 (b.toNat : Int)) (w.alloc (.cells Lib.zeros24 39)) w.heap.size 0 dk).drewN k) := by
      rw [alloc_eq_grow]
      obtain ⟨os', _, e⟩ := putRow_grow_new (fun (b : UInt8) => Value.int .u8 (b.toNat : Int)) w #[.cells Lib.zeros24 39] w.heap.size 0 dk (Nat.le_refl _)
      rw [e]
      exact Lib.below_grow _ w (Nat.le_refl _) k os'
    generalize (putRow (fun (b : UInt8) => Value.int .u8 (b.toNat : Int)) (w.alloc (.cells Lib.zeros24 39)) w.heap.size 0 dk).drewN k = W at *
    have hc2 : ∀ b, (some (⟨g, 0, none⟩ : Addr)) = some b → ∀ j u, xs[j]? = some u → W.cell? (b.add j) = some u := fun b hb j u hj => by
      injection hb with hb
      subst hb
      have h1 := hc j u hj
      rw [Lib.add_plain] at h1 ⊢
      exact (UB.cell (p := ⟨g, 0 + j, none⟩) (World.block_lt_of_cell? _ _ h1)).trans h1
    have q1 : xs.length = n * 1 := by omega
    have q2 : (Lib.byteCells (Lib.decDigits u)).length = Lib.nDigits u * 1 := by rw [Lib.byteCells_length, Lib.decDigits_length, Nat.mul_one]
    have q3 : ∀ u' ∈ Lib.byteCells (Lib.decDigits u), u'.oneCell' = true := by intro u' hu'; simp only [Lib.byteCells, List.mem_map] at hu'; obtain ⟨b, _, rfl⟩ := hu'; rfl
    have q0 : 0 < Lib.nDigits u := by rw [Lib.nDigits]; split <;> omega
    have q4 : n < n + Lib.nDigits u := by omega
    have q5 : n + Lib.nDigits u ≤ maxLen := by unfold maxLen; omega
    have q6 : (n + Lib.nDigits u) * 1 ≤ 140737488355328 := by omega
    have FIN : Hid (∀ v' w', w'.ownsRow W.heap.size 5 1 v' (n + Lib.nDigits u) (xs ++ Lib.byteCells (Lib.decDigits u)) → W.grownBy w' none → NewU w (xs ++ Lib.byteCells (Lib.decDigits u)) (.returned v') w') := fun v' w' o gr => by
      refine ⟨v', rfl, ?_, below_trans UB (below_none gr)⟩
      have o2 : RowV 5 W.heap.size w' v' (xs ++ Lib.byteCells (Lib.decDigits u)) := by
        rw [RowV, List.length_append, hxl, q2, Nat.mul_one]
        exact o
      exact o2.mono UB.size
    clear hfmt HH0 hF
    go_wp2_with (at_builtin; refine wpList_append_grows _ rfl _ _ 33 rfl 5 i0 (.int .u8 0) 1 1 underU hi hz0 hz1 hz2 rfl (by decide) (some ⟨g, 0, none⟩) n n xs rfl (fun h => by cases h) q1 hc2 ⟨w.heap.size, 0, none⟩ (Lib.nDigits u) 24 (Lib.byteCells (Lib.decDigits u)) rfl q2 hcells q3 q4 q5 q6 ?_; intro v2 w3 hown' hgrow)
    go_ret
    exact FIN.out _ _ hown' hgrow

set_option maxHeartbeats 6400000 in
set_option maxRecDepth 100000 in
theorem appIntI_full (i : Int) (h0 : -9223372036854775808 ≤ i) (h1 : i ≤ 9223372036854775807) (g n : Nat) (xs : List Value) (w : World) (hn : n ≤ 1000) (hxl : xs.length = n) (hc : ∀ j u, xs[j]? = some u → w.cell? ((⟨g, 0, none⟩ : Addr).add j) = some u) (htab : TabW w) :
    Calls Tryd.prog 12 #[.slice (some ⟨g, 0, none⟩) n n, .int .i64 i, .int .i64 10] w (NewU w (xs ++ Lib.byteCells (Lib.itoa i))) := by
  obtain ⟨i0, hi, hz0, hz1, hz2⟩ := info_parts infoU
  by_cases hneg : i < 0
  · obtain ⟨u, rfl⟩ : ∃ u : Nat, i = -(u : Int) := ⟨i.natAbs, by omega⟩
    have hu1 : 1 ≤ u := by omega
    have hu64 : u < 18446744073709551616 := by omega
    have hwr : IntKind.u64.wrap (-IntKind.u64.wrap (-(u : Int))) = (u : Int) := by rw [IntKind.wrap_u64, IntKind.wrap_u64]; omega
    rw [Lib.itoa_neg u hu1]
    have bA := below_alloc w (.cells #[.int .u8 45] 5)
    have q1 : xs.length = n * 1 := by omega
    have hc2 : ∀ b, (some (⟨g, 0, none⟩ : Addr)) = some b → ∀ j u, xs[j]? = some u → (w.alloc (.cells #[.int .u8 45] 5)).cell? (b.add j) = some u := fun b hb j u hj => by
      injection hb with hb
      subst hb
      have h1 := hc j u hj
      rw [Lib.add_plain] at h1 ⊢
      exact (bA.cell (p := ⟨g, 0 + j, none⟩) (World.block_lt_of_cell? _ _ h1)).trans h1
    have hcells : ∀ j u', ([Value.int .u8 45])[j]? = some u' → (w.alloc (.cells #[.int .u8 45] 5)).cell? ((⟨w.heap.size, 0, none⟩ : Addr).add j) = some u' := by
      intro j u' hj
      match j, hj with
      | 0, hj => simp at hj; subst hj; simp [Addr.add]
    have q3 : ∀ u' ∈ ([Value.int .u8 45]), u'.oneCell' = true := by intro u' hu'; simp at hu'; subst hu'; rfl
    have q5 : n + 1 ≤ maxLen := by unfold maxLen; omega
    have CALL : Hid (∀ v1 w1, w1.ownsRow (w.alloc (.cells #[.int .u8 45] 5)).heap.size 5 1 v1 (n + 1) (xs ++ [Value.int .u8 45]) → (w.alloc (.cells #[.int .u8 45] 5)).grownBy w1 none → Calls Tryd.prog 13 #[v1, .int .u64 (u : Int), .int .i64 10] w1 (NewU w (xs ++ Lib.byteCells (45 :: Lib.decDigits u)))) := fun v1 w1 o gr => by
      have B1 := below_trans bA (below_none gr)
      have o2 : RowV 5 w.heap.size w1 v1 (xs ++ [Value.int .u8 45]) := RowV.mono (base := (w.alloc (.cells #[.int .u8 45] 5)).heap.size) (by rw [RowV, List.length_append, hxl]; exact o) bA.size
      rw [RowV, List.length_append, hxl] at o2
      refine (Tryd.internal_strconv_AppendUint_10 w.heap.size (n + 1) u hu64 v1 _ w1 o2 B1.size (by omega) (tab_below htab B1)).mono ?_
      rintro e w2 ⟨v2, rfl, o3, b3, _⟩
      have e2 : xs ++ Lib.byteCells (45 :: Lib.decDigits u) = xs ++ [Value.int .u8 45] ++ Lib.byteCells (Lib.decDigits u) := by simp [Lib.byteCells]
      refine ⟨v2, rfl, ?_, B1.trans b3⟩
      rw [e2, List.length_append, List.length_append, hxl, Lib.byteCells_length]
      exact o3
    clear hc htab
    go_enter Tryd.func12, Tryd.ntmps12
    go_wp2_with (at_builtin; refine wpList_append_grows _ rfl _ _ 33 rfl 5 i0 (.int .u8 0) 1 1 underU hi hz0 hz1 hz2 rfl (by decide) (some ⟨g, 0, none⟩) n n xs rfl (fun h => by cases h) q1 hc2 ⟨w.heap.size, 0, none⟩ 1 1 [Value.int .u8 45] rfl rfl hcells q3 (by omega) q5 (by omega) ?_; intro v1 w1 o1 g1)
    refine (CALL.out v1 w1 o1 g1).mono ?_
    rintro e w2 ⟨v2, rfl, o2, b2⟩
    go_wp2_with fail
    go_ret
    exact ⟨v2, rfl, o2, b2⟩
  · obtain ⟨u, rfl⟩ : ∃ u : Nat, i = u := ⟨i.toNat, by omega⟩
    have hu64 : u < 18446744073709551616 := by omega
    rw [Lib.itoa_nonneg]
    have CALL : Hid (Calls Tryd.prog 13 #[.slice (some ⟨g, 0, none⟩) n n, .int .u64 (u : Int), .int .i64 10] w (NewU w (xs ++ Lib.byteCells (Lib.decDigits u)))) := appUint_full u hu64 g n xs w hn hxl hc htab
    clear hc htab
    go_enter Tryd.func12, Tryd.ntmps12
    go_wp2_with fail
    refine CALL.out.mono ?_
    rintro e w2 ⟨v2, rfl, o2, b2⟩
    go_wp2_with fail
    go_ret
    exact ⟨v2, rfl, o2, b2⟩

theorem appInt_full (i : Int) (h0 : -9223372036854775808 ≤ i) (h1 : i ≤ 9223372036854775807) (g n : Nat) (xs : List Value) (w : World) (hn : n ≤ 1000) (hxl : xs.length = n) (hc : ∀ j u, xs[j]? = some u → w.cell? ((⟨g, 0, none⟩ : Addr).add j) = some u) (htab : TabW w) :
    Calls Tryd.prog 10 #[.slice (some ⟨g, 0, none⟩) n n, .int .i64 i, .int .i64 10] w (NewU w (xs ++ Lib.byteCells (Lib.itoa i))) := by
  have CALL : Hid (Calls Tryd.prog 12 #[.slice (some ⟨g, 0, none⟩) n n, .int .i64 i, .int .i64 10] w (NewU w (xs ++ Lib.byteCells (Lib.itoa i)))) := appIntI_full i h0 h1 g n xs w hn hxl hc htab
  clear hc htab
  go_enter Tryd.func10, Tryd.ntmps10
  go_wp2_with fail
  refine CALL.out.mono ?_
  rintro e w2 ⟨v2, rfl, o2, b2⟩
  go_wp2_with fail
  go_ret
  exact ⟨v2, rfl, o2, b2⟩
end Go.Proofs.YtcbdbjejodpnaaaDoor
