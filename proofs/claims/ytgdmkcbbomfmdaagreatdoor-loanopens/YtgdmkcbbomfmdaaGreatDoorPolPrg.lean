/-
  Ours: policy's Backoff, Bound, Window.
-/
import Derived.Test.YtgdmkcbbomfmdaaGreatDoorPolRul
import Derived.Test.YtgdmkcbbomfmdaaGreatDoorPolRef
namespace Go.Proofs.YtgdmkcbbomfmdaaGreatDoor
open Go.RowKit LedM PolM

section
variable {P : Program}
/-- An entry of an array of structs that is a value. -/
theorem run_index_row (t e : TypeId) (n z : Nat) (d : TypeDesc) (cs : Array Value) (k : Nat) (hu : P.underlying t = some (.array n e)) (hk : k < n) (he : P.underlying e = some d) (hd : d.isRow = true)
    (hi : (P.info? e).map (·.size) = some z) (w : World) : (Instr.index t (.agg cs) (.int .i64 (k : Int))).run P w = .ok (.agg (cs.extract (k * z) (k * z + z))) w := by
  have hagg : (isAgg e).run P w = .ok true w := by
    unfold isAgg
    rw [Sem.run_bind, run_underlying he w]
    cases d <;> simp_all [TypeDesc.isRow]
  cases hq : P.info? e with
  | none => simp [hq] at hi
  | some i =>
    have hs : i.size = z := by simpa [hq] using hi
    simp [Instr.index, asIntOf, run_underlying hu, hk, part, sizeOf, typeInfo, hq, hs, hagg]
end
theorem sizeR1 : (Tryz.prog.info? 95).map (·.size) = some 3 := by kernel_rfl
theorem index_rule (RL : List Value) (k : Nat) (a b c : Value) (hk : k < 17) (h0 : RL[k * 3]? = some a) (h1 : RL[k * 3 + 1]? = some b) (h2 : RL[k * 3 + 2]? = some c) (w : World) :
    (Instr.index 96 (.agg RL.toArray) (.int .i64 (k : Int))).run Tryz.prog w = .ok (.agg #[a, b, c]) w := by
  rw [run_index_row 96 95 17 3 _ RL.toArray k Tryz.underlying96 hk Tryz.underlying95 rfl sizeR1 w]
  congr 2
  rw [List.extract_toArray, List.extract_eq_take_drop]
  congr 1
  have e : k * 3 + 3 - k * 3 = 3 := by omega
  rw [e]
  apply List.ext_getElem?
  intro i
  rw [List.getElem?_take]
  match i with
  | 0 => simp [List.getElem?_drop, h0]
  | 1 => simp [List.getElem?_drop, h1]
  | 2 => simp [List.getElem?_drop, h2]
  | i + 3 => simp [show ¬ i + 3 < 3 from by omega]

theorem rule_one (a b : Nat) (x y : Array Value) (t : Int) : ∀ v ∈ [Value.func (.func a) #[] x, .func (.func b) #[] y, .int .i64 t], v.oneCell' = true := fun v hv => by
  simp only [List.mem_cons, List.not_mem_nil, or_false] at hv
  rcases hv with rfl | rfl | rfl <;> rfl
theorem blk_whole {G T : Nat} {Z RL : List Value} {w : World} (hZ : Z.length ≤ 0 + RL.length) (h : Blk G T (Z.take 0 ++ RL ++ Z.drop (0 + RL.length)) w) : Blk G T RL w := by
  rw [List.take_zero, List.nil_append, List.drop_of_length_le hZ, List.append_nil] at h; exact h

set_option maxRecDepth 20000 in
set_option maxHeartbeats 4000000 in
theorem check_at (l hs : List Int) (s : Value) (w : World) (hl : l.length = 17) (hr : Rd w s (bkL hs)) (hb : hs.length ≤ 1152921504606846976) :
    Calls Tryz.prog 24 #[PV l s] w fun e w' => e = .returned (.tuple #[.int .i64 (ev (chk l hs)), .int .i64 (chk l hs : Int)]) ∧ Below w.heap.size w w' := by
  have PB := Blk.new 24 (polL l s) w
  have RA : Hid (∀ w, Calls Tryz.prog 41 #[] w fun e w' => ∃ RL : List Value, e = .returned (.agg RL.toArray) ∧ Below w.heap.size w w' ∧ RL.length = 51 ∧ (∀ v ∈ RL, v.oneCell' = true) ∧ ∀ l s k, l.length = 17 → k < 17 → Rule RL k l s w') := rules_at
  have CN : Hid (∀ n, n < 17 → (∀ j, j < n → fld l j = true) → fld l n = false → chk l hs = n + 1) := fun n hn h h' => chk_stop (by omega) (fun j hj => by rw [may, if_pos (by omega)]; exact h j hj) (by rw [may, if_pos hn]; exact h')
  have CH : Hid ((∀ j, j < 17 → fld l j = true) → chk l hs = if hol hs then 0 else 18) := fun h => by
    cases e : hol hs
    · exact chk_stop (n := 17) (by omega) (fun j hj => by rw [may, if_pos hj]; exact h j hj) (by rw [may, if_neg (by omega)]; exact e)
    · exact chk_ok fun j hj => by
        by_cases h17 : j < 17
        · rw [may, if_pos h17]; exact h j h17
        · rw [may, if_neg h17]; exact e
  show Calls _ _ #[.agg (polL l s).toArray] _ _
  have HM : Hid (∀ w', Below w.heap.size w w' → Calls Tryz.prog 42 #[s] w' fun e w'' => e = .returned (.bool (hol hs)) ∧ w'' = w') := fun w' hb' => hmb_at hs s w' (hr.later hb') hb
  have c17 := PB.cell 17 _ (polL_hol hl)
  have BP : Hid (Blk w.heap.size 24 (polL l s) (w.alloc (.cells (polL l s).toArray 24))) := PB
  have SZ : Hid ((Tryz.prog.info? 24).map (·.size) = some (polL l s).length) := by show _ = _; rw [polL_len hl]; exact sizeP
  have LN : Hid (l.length = 17) := hl
  clear PB hr hl
  go_enter Tryz.func24, Tryz.ntmps24
  go_wp2_with fail
  refine (RA.out _).mono ?_
  rintro e w1 ⟨RL, rfl, b1, rlen, rone, hrule⟩
  have B1 : Hid (Below w.heap.size w w1) := below_trans (below_alloc w _) b1
  have P1 : Hid (Blk w.heap.size 24 (polL l s) w1) := BP.out.below b1
  have RU1 : Hid (∀ k, k < 17 → Rule RL k l s w1) := fun k hk => hrule l s k LN.out hk
  have RO : Hid (∀ v ∈ RL, v.oneCell' = true) := rone
  have RN : Hid (RL.length = 51) := rlen
  have SR : Hid ((Tryz.prog.info? 96).map (·.size) = some RL.length) := by show _ = _; rw [rlen]; exact sizeR
  have FT : Hid (0 + RL.length ≤ rul0.length) := by show _ ≤ _; rw [rlen]; exact Nat.le_refl 51
  have ZL : Hid (rul0.length ≤ 0 + RL.length) := by show _ ≤ _; rw [rlen]; exact Nat.le_refl 51
  have NW : Hid (Blk w1.heap.size 96 rul0 (w1.alloc (.cells #[.nilFunc, .nilFunc, .int .i64 0, .nilFunc, .nilFunc, .int .i64 0, .nilFunc, .nilFunc, .int .i64 0, .nilFunc, .nilFunc, .int .i64 0, .nilFunc, .nilFunc, .int .i64 0, .nilFunc, .nilFunc, .int .i64 0, .nilFunc, .nilFunc, .int .i64 0, .nilFunc, .nilFunc, .int .i64 0, .nilFunc, .nilFunc, .int .i64 0, .nilFunc, .nilFunc, .int .i64 0, .nilFunc, .nilFunc, .int .i64 0, .nilFunc, .nilFunc, .int .i64 0, .nilFunc, .nilFunc, .int .i64 0, .nilFunc, .nilFunc, .int .i64 0, .nilFunc, .nilFunc, .int .i64 0, .nilFunc, .nilFunc, .int .i64 0, .nilFunc, .nilFunc, .int .i64 0] 96))) := Blk.new _ _ _
  clear b1 rlen rone hrule BP c17
  go_wp2_with (first
  | ((with_reducible refine at_store ?_); refine step_store rfl 96 _ _ rfl w1.heap.size 0 96 rul0 RL rfl rfl NW.out FT.out SR.out RO.out ?_; intro w2 nb2 g2; have NB : Hid (Blk w1.heap.size 96 RL w2) := blk_whole ZL.out nb2; clear nb2)
  | (refine step_load rfl 96 _ rfl w1.heap.size 0 rfl RL _ (Blk.all NB.out) Tryz.underlying96 rfl SR.out ?_))
  have B2 : Hid (Below w.heap.size w w2) := below_row (B1.out.alloc B1.out.size _) g2 B1.out.size
  have D12 : Hid (Below w1.heap.size w1 w2) := below_row (below_alloc w1 _) g2 (Nat.le_refl _)
  have P2 : Hid (Blk w.heap.size 24 (polL l s) w2) := P1.out.below D12.out
  have RU : Hid (∀ k, k < 17 → Rule RL k l s w2) := fun k hk => (RU1.out k hk).later D12.out
  clear RU1 P1 B1 D12 NB g2 NW ZL FT SR RO RA
  go_loopw [5, 6, 7, 10] (fun _ _ _ vk wr => ∃ k : Nat, vk = .int .i64 (k : Int) ∧ k ≤ 17 ∧ Hid (∀ j, j < k → fld l j = true) ∧ Hid (Below w2.heap.size w2 wr)) (fun _ _ _ vk _ => 17 - (intOf vk).toNat)
  case atStart => exact ⟨0, rfl, by omega, fun j hj => by omega, Below.refl _ _⟩
  case round =>
    obtain ⟨k, rfl, hk, FO, BR⟩ := hrel
    by_cases hlt : (k : Int) < 17
    · obtain ⟨Ff, cf, Ft, ct, e0, e1, e2, en0, en1, A0, A1⟩ := RU.out k (by omega)
      have ix := index_rule RL k _ _ _ (by omega) e0 e1 e2
      have CA0 : Hid (∀ w', Below w2.heap.size w2 w' → Calls Tryz.prog Ff (#[PV l s] ++ cf) w' fun e w'' => e = .returned (.int .i64 (l.getD k 0)) ∧ Below w'.heap.size w' w'') := A0
      have CA1 : Hid (∀ w', Below w2.heap.size w2 w' → Calls Tryz.prog Ft (#[PV l s] ++ ct) w' fun e w'' => e = .returned (.int .i64 (frm l k)) ∧ Below w'.heap.size w' w'') := A1 FO.out
      have ZN : Hid (Blk wr.heap.size 95 [.nilFunc, .nilFunc, .int .i64 0] (wr.alloc (.cells #[.nilFunc, .nilFunc, .int .i64 0] 95))) := Blk.new _ _ _
      have BZ : Hid (Below w2.heap.size w2 (wr.alloc (.cells #[.nilFunc, .nilFunc, .int .i64 0] 95))) := below_trans BR.out (below_alloc _ _)
      have ent0 : ∀ (args : Array Value) (w : World), Sem.run Tryz.prog (callFunc Ff args) w = .ok (.enter Ff args) w := en0
      have ent1 : ∀ (args : Array Value) (w : World), Sem.run Tryz.prog (callFunc Ft args) w = .ok (.enter Ft args) w := en1
      have FD : Hid (fld l k = decide (frm l k ≤ l.getD k 0 ∧ l.getD k 0 ≤ tov k)) := rfl
      have CK : Hid (fld l k = false → chk l hs = k + 1) := CN.out k (by omega) FO.out
      have FO' : Hid (fld l k = true → ∀ j, j < k + 1 → fld l j = true) := fun h j hj => by
        by_cases e : j = k
        · subst e; exact h
        · exact FO.out j (by omega)
      have EV : Hid (ev (k + 1) = 120) := rfl
      clear e0 e1 e2 A0 A1 en0 en1
      generalize hx : l.getD k 0 = x at *
      generalize hf : frm l k = f at *
      generalize ht : tov k = t at *
      clear hx hf ht
      go_wp2_with (first
      | ((with_reducible refine at_store ?_); refine step_store rfl 95 _ _ rfl wr.heap.size 0 95 [.nilFunc, .nilFunc, .int .i64 0] [.func (.func Ff) #[] cf, .func (.func Ft) #[] ct, .int .i64 t] rfl rfl ZN.out (Nat.le_refl _) sizeR1 (rule_one _ _ _ _ _) ?_; intro w3 nb3 g3; have N3 : Hid (Blk wr.heap.size 95 [.func (.func Ff) #[] cf, .func (.func Ft) #[] ct, .int .i64 t] w3) := nb3; have B3 : Hid (Below w2.heap.size w2 w3) := below_row BZ.out g3 BR.out.size; have P3 : Hid (Blk w.heap.size 24 (polL l s) w3) := P2.out.below B3.out; have c0 := nb3.cell 0 _ rfl; clear nb3 g3)
      | (refine step_load rfl 24 _ rfl w.heap.size 0 rfl (polL l s) _ (Blk.all P3.out) Tryz.underlying24 rfl SZ.out ?_))
      refine (CA0.out _ B3.out).mono ?_
      rintro e w4 ⟨rfl, b4⟩
      have B4 : Hid (Below w2.heap.size w2 w4) := below_trans B3.out b4
      have P4 : Hid (Blk w.heap.size 24 (polL l s) w4) := P2.out.below B4.out
      have N4 : Hid (Blk wr.heap.size 95 [.func (.func Ff) #[] cf, .func (.func Ft) #[] ct, .int .i64 t] w4) := N3.out.below b4
      have d1 := N4.out.cell 1 _ rfl
      clear b4 c0 ix
      by_cases h1 : x < f
      · go_wp2_with (first
        | (refine step_load rfl 24 _ rfl w.heap.size 0 rfl (polL l s) _ (Blk.all P4.out) Tryz.underlying24 rfl SZ.out ?_))
        refine (CA1.out _ B4.out).mono ?_
        rintro e w5 ⟨rfl, b5⟩
        have B5 : Hid (Below w2.heap.size w2 w5) := below_trans B4.out b5
        have N5 : Hid (Blk wr.heap.size 95 [.func (.func Ff) #[] cf, .func (.func Ft) #[] ct, .int .i64 t] w5) := N4.out.below b5
        have d2 := N5.out.cell 2 _ rfl
        clear b5
        go_wp2_with fail
        go_ret2
        refine ⟨?_, below_trans B2.out B5.out⟩
        rw [CK.out (by rw [FD.out]; exact decide_eq_false (by omega)), EV.out]
        rfl
      · by_cases h2 : t < x
        · go_wp2_with (first
          | (refine step_load rfl 24 _ rfl w.heap.size 0 rfl (polL l s) _ (Blk.all P4.out) Tryz.underlying24 rfl SZ.out ?_))
          refine (CA1.out _ B4.out).mono ?_
          rintro e w5 ⟨rfl, b5⟩
          have B5 : Hid (Below w2.heap.size w2 w5) := below_trans B4.out b5
          have N5 : Hid (Blk wr.heap.size 95 [.func (.func Ff) #[] cf, .func (.func Ft) #[] ct, .int .i64 t] w5) := N4.out.below b5
          have d2 := N5.out.cell 2 _ rfl
          clear b5
          go_wp2_with fail
          go_ret2
          refine ⟨?_, below_trans B2.out B5.out⟩
          rw [CK.out (by rw [FD.out]; exact decide_eq_false (by omega)), EV.out]
          rfl
        · go_wp2_with (first
          | (refine step_load rfl 24 _ rfl w.heap.size 0 rfl (polL l s) _ (Blk.all P4.out) Tryz.underlying24 rfl SZ.out ?_))
          refine (CA1.out _ B4.out).mono ?_
          rintro e w5 ⟨rfl, b5⟩
          have B5 : Hid (Below w2.heap.size w2 w5) := below_trans B4.out b5
          have N5 : Hid (Blk wr.heap.size 95 [.func (.func Ff) #[] cf, .func (.func Ft) #[] ct, .int .i64 t] w5) := N4.out.below b5
          have d2 := N5.out.cell 2 _ rfl
          clear b5
          go_wp2_with fail
          go_roundw
          case rel => exact ⟨k + 1, by go_num, by omega, FO'.out (by rw [FD.out]; exact decide_eq_true ⟨by omega, by omega⟩), B5.out⟩
          case measure => simp [intOf]; omega
    · obtain rfl : k = 17 := by omega
      have CE := CH.out FO.out
      have B5 : Hid (Below w.heap.size w wr) := below_trans B2.out BR.out
      have HM' : Hid (Calls Tryz.prog 42 #[s] wr fun e w'' => e = .returned (.bool (hol hs)) ∧ w'' = wr) := HM.out wr B5.out
      have d17 := (P2.out.below BR.out).cell 17 _ (polL_hol LN.out)
      have CC : Hid (chk l hs = if hol hs then 0 else 18) := CE
      clear CE
      generalize hol hs = hb at *
      cases hb
      · go_wp2_with fail
        refine HM'.out.mono ?_
        rintro e w5 ⟨rfl, rfl⟩
        go_wp2_with fail
        go_ret2
        refine ⟨?_, B5.out⟩
        rw [CC.out]
        rfl
      · go_wp2_with fail
        refine HM'.out.mono ?_
        rintro e w5 ⟨rfl, rfl⟩
        go_wp2_with fail
        go_ret2
        refine ⟨?_, B5.out⟩
        rw [CC.out]
        rfl

end Go.Proofs.YtgdmkcbbomfmdaaGreatDoor

namespace Go.Proofs.YtgdmkcbbomfmdaaGreatDoor
open Go.RowKit LedM PolM

namespace PolM
def p2 : Nat → Int
  | 0 => 1
  | m + 1 => 2 * p2 m
theorem p2_pos : ∀ m, 1 ≤ p2 m
  | 0 => by decide
  | m + 1 => by have := p2_pos m; simp only [p2]; omega
theorem p2_mono {m n : Nat} (h : m ≤ n) : p2 m ≤ p2 n := by
  induction n with
  | zero => obtain rfl : m = 0 := by omega
            exact Int.le_refl _
  | succ n ih =>
    by_cases e : m = n + 1
    · subst e; exact Int.le_refl _
    · have := ih (by omega); have := p2_pos n; simp only [p2]; omega
/-- The wait behind the attempt of that number. -/
def bkN (b c : Int) (m : Nat) : Int := min (b * p2 (min m 7)) c
def bkV (b c att : Int) : Int := bkN b c (att - 1).toNat
theorem bk_end {b c : Int} {m n : Nat} (b0 : 1 ≤ b) (h : m ≤ n) (h7 : m ≤ 7) (hh : n ≤ m ∨ c ≤ b * p2 m) : min (b * p2 m) c = bkN b c n := by
  unfold bkN
  rcases hh with hh | hh
  · obtain rfl : m = n := by omega
    rw [Nat.min_eq_left h7]
  · have h1 : p2 m ≤ p2 (min n 7) := p2_mono (by omega)
    have h2 : b * p2 m ≤ b * p2 (min n 7) := Int.mul_le_mul_of_nonneg_left h1 (by omega)
    omega
theorem p2_small {b c : Int} {m : Nat} (b0 : 1 ≤ b) (c1 : c ≤ 64) (h : b * p2 m < c) : m ≤ 5 ∧ p2 m ≤ 63 := by
  have h3 : p2 m ≤ b * p2 m := by
    have := Int.mul_le_mul_of_nonneg_right b0 (by have := p2_pos m; omega : 0 ≤ p2 m)
    omega
  refine ⟨?_, by omega⟩
  rcases Nat.lt_or_ge 5 m with h5 | h5
  · have := p2_mono (show 6 ≤ m from h5)
    have : p2 6 = 64 := rfl
    omega
  · exact h5
end PolM

/-- What a policy that may be gives of its numbers. -/
structure Nums (l : List Int) : Prop where
  rate : 0 ≤ l.getD 4 0 ∧ l.getD 4 0 ≤ 10000
  least : 0 ≤ l.getD 5 0 ∧ l.getD 5 0 ≤ 1000000000
  most : l.getD 5 0 ≤ l.getD 6 0 ∧ l.getD 6 0 ≤ 1000000000
  cyc : 0 ≤ l.getD 7 0 ∧ l.getD 7 0 ≤ 1000000000
  life : 0 ≤ l.getD 8 0 ∧ l.getD 8 0 ≤ 1000000000
  off : 1 ≤ l.getD 3 0 ∧ l.getD 3 0 ≤ 365
  prom : 0 ≤ l.getD 9 0 ∧ l.getD 9 0 ≤ 8
  pday : 1 ≤ l.getD 10 0 ∧ l.getD 10 0 ≤ 60
  base : 1 ≤ l.getD 14 0 ∧ l.getD 14 0 ≤ 64
  cap : l.getD 14 0 ≤ l.getD 15 0 ∧ l.getD 15 0 ≤ 64
theorem nums {l hs : List Int} (h : good l hs = true) : Nums l :=
  ⟨good_fld h 4 (by omega), good_fld h 5 (by omega), good_fld h 6 (by omega), good_fld h 7 (by omega), good_fld h 8 (by omega), good_fld h 3 (by omega), good_fld h 9 (by omega), good_fld h 10 (by omega), good_fld h 14 (by omega), good_fld h 15 (by omega)⟩

end Go.Proofs.YtgdmkcbbomfmdaaGreatDoor
