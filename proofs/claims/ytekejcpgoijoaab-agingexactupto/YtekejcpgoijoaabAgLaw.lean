/-
  Ours: the statements' copied and sound; the reference's amounts and Sound.
-/
import Derived.Test.YtekejcpgoijoaabAgSat
import Derived.Test.YtekejcpgoijoaabRefSum
import Derived.Test.YtekejcpgoijoaabAgCat
namespace Go.Proofs.Ytekejcpgoijoaab
open Go.RowKit LedM AgM

set_option maxHeartbeats 1000000 in
theorem copied_at (l : List Ins) (v : Value) (w : World) (hl : l.length ≤ 1000000000) (h : RdP w v l) :
    Calls Try.prog 6 #[v] w fun e w' => ∃ v', e = .returned v' ∧ RowP w.heap.size w' v' l ∧ Below w.heap.size w w' := by
  have RD : Hid (RdP w v l) := h
  clear h
  go_enter Try.func6, Try.ntmps6
  go_wp2_with (at_builtin; refine wpList_catP rfl (.tmp 4) (.tmp 5) rfl w.heap.size _ v [] l rfl (RowP.nil _ _) (Nat.le_refl _) rfl RD.out (by simp; omega) ?_; intro v' w1 row g1)
  go_ret
  exact ⟨_, rfl, row, below_none g1⟩

namespace AgM
def amL (l : List Ins) : List Int := l.flatMap (fun x => [x.i, x.p])
theorem amL_push (l : List Ins) (x : Ins) : amL (l ++ [x]) = amL l ++ [x.i, x.p] := by simp [amL]
theorem amL_len : ∀ l : List Ins, (amL l).length = 2 * l.length
  | [] => rfl
  | x :: r => by have := amL_len r; simp only [amL, List.flatMap_cons, List.length_append, List.length_cons, List.length_nil] at this ⊢; omega
theorem amL_total : ∀ l : List Ins, total (amL l) = sumA l
  | [] => rfl
  | x :: r => by have := amL_total r; simp only [amL, List.flatMap_cons, List.cons_append, List.nil_append, total, sumA, am] at this ⊢; rw [this]; omega
theorem amL_mem {l : List Ins} {a : Int} (h : a ∈ amL l) : ∃ x ∈ l, a = x.i ∨ a = x.p := by
  unfold amL at h; obtain ⟨x, hx, h⟩ := List.mem_flatMap.1 h; exact ⟨x, hx, by simpa using h⟩
theorem amL_i64 {l : List Ins} (ok : ∀ x ∈ l, InsOk x) : I64 (amL l) := fun k => by
  rw [List.getD_eq_getElem?_getD]
  by_cases hk : k < (amL l).length
  · rw [List.getElem?_eq_getElem hk]
    obtain ⟨x, hx, h⟩ := amL_mem (List.getElem_mem hk)
    have := ok x hx
    unfold InsOk i64 at this
    rcases h with h | h <;> simp only [Option.getD_some] <;> rw [h] <;> omega
  · rw [List.getElem?_eq_none (by omega)]; simp
/-- The reference's row. -/
def rc (l : List Ins) (k : Nat) : Prop := 1 ≤ (iN l k).d ∧ (iN l k).d ≤ 3652059 ∧ 0 ≤ (iN l k).i ∧ 0 ≤ (iN l k).p ∧ (0 < k → (iN l (k - 1)).d < (iN l k).d)
theorem snd_rc {l : List Ins} (h : Snd l = true) {k : Nat} (hk : k < l.length) : rc l k := by
  have h1 := snd_row h hk
  exact ⟨h1.1, h1.2.1, h1.2.2.1, h1.2.2.2, fun h0 => snd_rise h (by omega) hk⟩
theorem snd_nrc {l : List Ins} {k : Nat} (hk : k < l.length) (h : ¬ rc l k) : Snd l = false := by
  cases e : Snd l
  · rfl
  · exact absurd (snd_rc e hk) h
theorem rc_mono {l : List Ins} (h : ∀ k, k < l.length → rc l k) {j k : Nat} (hj : j ≤ k) (hk : k ≤ l.length) : bef l j ≤ bef l k := by
  induction k with
  | zero => obtain rfl : j = 0 := by omega
            exact Int.le_refl _
  | succ k ih =>
    by_cases e : j = k + 1
    · subst e; exact Int.le_refl _
    · have := ih (by omega) (by omega)
      have := h k (by omega)
      unfold rc at this
      rw [bef_succ (by omega)]; omega
theorem snd_sum {l : List Ins} (h : ∀ k, k < l.length → rc l k) : Snd l = smOk (sumA l) := by
  rw [Bool.eq_iff_iff]
  constructor
  · intro hs
    have := snd_bef hs (Nat.le_refl l.length)
    rw [bef_all] at this
    exact decide_eq_true ⟨by omega, this.2⟩
  · intro hs
    have hs := (of_decide_eq_true hs).2
    rw [snd_rows]
    intro k hk
    have h1 := h k hk
    have h2 := rc_mono h (j := k + 1) (k := l.length) (by omega) (Nat.le_refl _)
    rw [bef_all, bef_succ hk] at h2
    have hp : pv l k < (iN l k).d := by
      unfold pv
      by_cases e : k = 0
      · rw [if_pos e]; have := h1.1; omega
      · rw [if_neg e]; exact h1.2.2.2.2 (by omega)
    unfold rc at h1
    exact ⟨hp, h1.2.1, h1.2.2.1, by omega, h1.2.2.2.1, by omega⟩
end AgM

theorem rowInt {base : Nat} {w : World} {v : Value} {xs : List Int} (h : RowV 2 base w v (xs.map (Value.int .i64))) : Row 2 base w v xs := by
  have : RowV 2 base w v (xs.map (Value.int .i64)) := h
  simpa [Row, RowV] using this

set_option maxRecDepth 20000 in
set_option maxHeartbeats 2000000 in
theorem amounts_at (l : List Ins) (v : Value) (w : World) (hl : l.length ≤ 1000000) (h : RdP w v l) :
    Calls Try.prog 44 #[v] w fun e w' => ∃ v', e = .returned v' ∧ Row 2 w.heap.size w' v' (amL l) ∧ Below w.heap.size w w' := by
  obtain ⟨i0, hi, hz0, hz1, hz2⟩ := info_parts Try.info2
  have h' := h
  obtain ⟨ao, cap, rfl, hcap, hno, -⟩ := h
  have CE : Hid (∀ w', Below w.heap.size w w' → ∀ i, i < l.length → ∃ g o, ao = some ⟨g, o, none⟩ ∧ w'.rangeAt g (o + i * 4) (insL (iN l i))) := h'.cells
  have TK : Hid (∀ k, k < l.length → amL (l.take (k + 1)) = amL (l.take k) ++ [(iN l k).i, (iN l k).p]) := fun k hk => by rw [take_iN hk, amL_push]
  have TE : Hid (amL (l.take l.length) = amL l) := by show _ = _; rw [List.take_length]
  have TL : Hid (∀ k, k ≤ l.length → (amL (l.take k)).length = 2 * k) := fun k hk => by rw [amL_len, List.length_take, Nat.min_eq_left hk]
  obtain ⟨L, hL⟩ : ∃ L, l.length = L := ⟨_, rfl⟩
  rw [hL] at hcap hl CE TK TE TL ⊢
  clear h' hL hno
  go_enter Try.func44, Try.ntmps44
  go_wp2_with fail
  go_loopw [3, 4] (fun vr vk wr => ∃ k : Nat, vk = .int .i64 (k : Int) ∧ k ≤ L ∧ Hid (RowV 2 w.heap.size wr vr ((amL (l.take k)).map (Value.int .i64)) ∧ Below w.heap.size w wr)) (fun _ vk _ => L - (intOf vk).toNat)
  case atStart => exact ⟨0, rfl, by omega, RowV.nil _ _ _, Below.refl _ _⟩
  case round =>
    obtain ⟨k, rfl, hk, BB⟩ := hrel
    by_cases hlt : (k : Int) < (L : Int)
    · obtain ⟨g, o, rfl, rg⟩ := CE.out wr BB.out.2 k (by omega)
      have c1 : wr.cell? ⟨g, o + k * 4 + 1, none⟩ = some (.int .i64 (iN l k).i) := rg 1 _ rfl
      have c2 : wr.cell? ⟨g, o + k * 4 + 2, none⟩ = some (.int .i64 (iN l k).p) := rg 2 _ rfl
      have tk := TK.out k (by omega)
      have tl := TL.out k (by omega)
      have TK1 : Hid (amL (l.take (k + 1)) = amL (l.take k) ++ [(iN l k).i, (iN l k).p]) := tk
      have TL1 : Hid ((amL (l.take k)).length = 2 * k) := tl
      have HP : Hid (∀ w', Below w.heap.size w w' → w'.cell? ⟨g, o + k * 4 + 1, none⟩ = some (.int .i64 (iN l k).i) ∧ w'.cell? ⟨g, o + k * 4 + 2, none⟩ = some (.int .i64 (iN l k).p)) := fun w' hb => by
        obtain ⟨g', o', e', r'⟩ := CE.out w' hb k (by omega)
        cases e'
        exact ⟨r' 1 _ rfl, r' 2 _ rfl⟩
      clear rg tk tl TK TL TE CE
      generalize (iN l k).i = xi at *
      generalize (iN l k).p = xp at *
      have own : RowV 2 w.heap.size (wr.drew.alloc (.cells #[.int .i64 xi, .int .i64 xp] 2)) u3 ((amL (l.take k)).map (Value.int .i64)) := (RowV.drewN BB.out.1 1).later (below_alloc wr.drew _)
      have hd : Rd (wr.drew.alloc (.cells #[.int .i64 xi, .int .i64 xp] 2)) (.slice (some ⟨wr.heap.size, 0, none⟩) 2 2) [.int .i64 xi, .int .i64 xp] := ⟨_, _, rfl, Nat.le_refl _, (fun h => by cases h), fun i hi => ⟨wr.heap.size, 0, rfl, by simp, by
        match i, hi with
        | 0, _ => exact (Blk.new 2 [.int .i64 xi, .int .i64 xp] wr.drew).cell 0 _ rfl
        | 1, _ => exact (Blk.new 2 [.int .i64 xi, .int .i64 xp] wr.drew).cell 1 _ rfl⟩⟩
      have one : ∀ u ∈ [Value.int .i64 xi, .int .i64 xp], u.oneCell' = true := fun u hu => by simp at hu; rcases hu with rfl | rfl <;> rfl
      have FRW : Below w.heap.size w (wr.drew.alloc (.cells #[.int .i64 xi, .int .i64 xp] 2)) := below_trans (below_drewN BB.out.2 1) (below_alloc wr.drew _)
      have l1 : ((amL (l.take k)).map (Value.int .i64)).length + [Value.int .i64 xi, .int .i64 xp].length ≤ maxLen := by rw [List.length_map, TL1.out]; show _ + 2 ≤ _; unfold maxLen; omega
      have l2 : (((amL (l.take k)).map (Value.int .i64)).length + [Value.int .i64 xi, .int .i64 xp].length) * 8 ≤ 140737488355328 := by rw [List.length_map, TL1.out]; show (_ + 2) * 8 ≤ _; omega
      have OWN : Hid _ := own
      have HD : Hid _ := hd
      have ONE : Hid _ := one
      have FR : Hid _ := FRW
      have LL : Hid _ := And.intro l1 l2
      clear own hd one FRW l1 l2
      go_upto_region 5 with fail
      go_region_held3 (fun w' => w'.cell? ⟨g, o + k * 4 + 1, none⟩ = some (.int .i64 xi) ∧ w'.cell? ⟨g, o + k * 4 + 2, none⟩ = some (.int .i64 xp)) (first | exact ⟨c1, c2⟩ | exact HP.out _ FR.out | exact HP.out _ FR5) (first | (refine step_catV (by rfl) (.tmp 11) (.tmp 22) 59 (by rfl) 2 i0 (.int .i64 0) 8 Try.underlying59 hi hz0 hz1 hz2 rfl w.heap.size _ _ _ _ ONE.out (by simp [Act.eval]) OWN.out FR.out.size (by simp [Act.eval]) HD.out LL.out.1 LL.out.2 ?_; intro v5 w5 r5 g5; have FR5 : Below w.heap.size w w5 := below_grown FR.out OWN.out (Nat.le_refl _) FR.out.size g5))
      have R5 : Hid (RowV 2 w.heap.size w5 v5 ((amL (l.take (k + 1))).map (Value.int .i64)) ∧ Below w.heap.size w w5) := ⟨by rw [TK1.out, List.map_append]; exact r5, FR5⟩
      clear r5 g5 FR5
      go_wp2_with fail
      go_roundw
      case rel => exact ⟨k + 1, by go_num, by omega, R5.out⟩
      case measure => simp [intOf]; omega
    · obtain rfl : k = L := by omega
      have BR := BB.out
      rw [TE.out] at BR
      have BH : Hid _ := BR
      clear BR BB
      go_wp2_with fail
      go_ret
      exact ⟨_, rfl, rowInt BH.out.1, BH.out.2⟩

set_option maxRecDepth 20000 in
set_option maxHeartbeats 2000000 in
theorem rsound_at (l : List Ins) (v : Value) (w : World) (hl : l.length ≤ 1000000) (ok : ∀ x ∈ l, InsOk x) (h : RdP w v l) :
    Calls Try.prog 37 #[v] w fun e w' => e = .returned (.bool (Snd l)) ∧ Below w.heap.size w w' := by
  have AMT : Hid (∀ w', Below w.heap.size w w' → Calls Try.prog 44 #[v] w' fun e w2 => ∃ v', e = .returned v' ∧ Row 2 w'.heap.size w2 v' (amL l) ∧ Below w'.heap.size w' w2) := fun w' hb => amounts_at l v w' hl (h.later hb)
  have RS : Hid (∀ v' w' B, Row 2 B w' v' (amL l) → Calls Try.prog 43 #[v'] w' fun e w2 => e = .returned (.tuple #[.int .i64 (smV (sumA l)), .bool (smOk (sumA l))]) ∧ w2 = w') := fun v' w' B hr => by
    have := rsum_reads (w := w') hr.reads (amL_i64 ok) (by rw [amL_len]; omega)
    rwa [amL_total] at this
  have h' := h
  obtain ⟨ao, cap, rfl, hcap, hno, -⟩ := h
  have CE : Hid (∀ w', Below w.heap.size w w' → ∀ i, i < l.length → ∃ g o, ao = some ⟨g, o, none⟩ ∧ w'.rangeAt g (o + i * 4) (insL (iN l i))) := h'.cells
  obtain ⟨V, HV⟩ : ∃ V, Hid (Snd l = V) := ⟨_, rfl⟩
  have VF : Hid (∀ k, k < l.length → ¬ rc l k → V = false) := fun k hk hn => HV.out.symm.trans (snd_nrc hk hn)
  have VT : Hid ((∀ k, k < l.length → rc l k) → V = smOk (sumA l)) := fun hn => HV.out.symm.trans (snd_sum hn)
  rw [HV.out]
  obtain ⟨L, hL⟩ : ∃ L, l.length = L := ⟨_, rfl⟩
  rw [hL] at hcap hl CE VF VT AMT ⊢
  clear h' hL hno ok HV
  go_enter Try.func37, Try.ntmps37
  go_wp2_with fail
  go_loopw [3] (fun vk wr => ∃ k : Nat, vk = .int .i64 (k : Int) ∧ k ≤ L ∧ Hid ((∀ j, j < k → rc l j) ∧ Below w.heap.size w wr)) (fun vk _ => L - (intOf vk).toNat)
  case atStart => exact ⟨0, rfl, by omega, fun j hj => by omega, Below.refl _ _⟩
  case round =>
    obtain ⟨k, rfl, hk, BB⟩ := hrel
    by_cases hlt : (k : Int) < (L : Int)
    · obtain ⟨g, o, rfl, rg⟩ := CE.out wr BB.out.2 k (by omega)
      have c0 : wr.cell? ⟨g, o + k * 4, none⟩ = some (.int .i64 (iN l k).d) := rg 0 _ rfl
      have c1 : wr.cell? ⟨g, o + k * 4 + 1, none⟩ = some (.int .i64 (iN l k).i) := rg 1 _ rfl
      have c2 : wr.cell? ⟨g, o + k * 4 + 2, none⟩ = some (.int .i64 (iN l k).p) := rg 2 _ rfl
      have PR : Hid (0 < k → wr.cell? ⟨g, o + (k - 1) * 4, none⟩ = some (.int .i64 (iN l (k - 1)).d)) := fun h0 => by
        obtain ⟨g', o', e', r'⟩ := CE.out wr BB.out.2 (k - 1) (by omega)
        cases e'
        exact r' 0 _ rfl
      have RC : Hid (rc l k ↔ 1 ≤ (iN l k).d ∧ (iN l k).d ≤ 3652059 ∧ 0 ≤ (iN l k).i ∧ 0 ≤ (iN l k).p ∧ (0 < k → (iN l (k - 1)).d < (iN l k).d)) := Iff.rfl
      have VN : Hid (¬ rc l k → V = false) := VF.out k (by omega)
      clear rg CE VF VT
      generalize (iN l k).d = xd at *
      generalize (iN l k).i = xi at *
      generalize (iN l k).p = xp at *
      generalize (iN l (k - 1)).d = yd at *
      by_cases h1 : xd < 1
      · have VV : Hid (V = false) := VN.out (fun h => by have := RC.out.1 h; omega)
        go_wp2_with fail
        go_ret
        exact ⟨by rw [VV.out]; rfl, BB.out.2⟩
      by_cases h2 : 3652059 < xd
      · have VV : Hid (V = false) := VN.out (fun h => by have := RC.out.1 h; omega)
        go_wp2_with fail
        go_ret
        exact ⟨by rw [VV.out]; rfl, BB.out.2⟩
      by_cases h3 : xi < 0
      · have VV : Hid (V = false) := VN.out (fun h => by have := RC.out.1 h; omega)
        go_wp2_with fail
        go_ret
        exact ⟨by rw [VV.out]; rfl, BB.out.2⟩
      by_cases h4 : xp < 0
      · have VV : Hid (V = false) := VN.out (fun h => by have := RC.out.1 h; omega)
        go_wp2_with fail
        go_ret
        exact ⟨by rw [VV.out]; rfl, BB.out.2⟩
      by_cases h5 : 0 < (k : Int)
      · have c3 := PR.out (by omega)
        have hcst : ((k - 1 : Nat) : Int) = (k : Int) - 1 := by omega
        have hi1 : (k : Int) - 1 < (L : Int) := by omega
        have hi0 : 0 ≤ (k : Int) - 1 := by omega
        have htn : ((k : Int) - 1).toNat = k - 1 := by omega
        have hw : IntKind.i64.wrap ((k : Int) - 1) = (k : Int) - 1 := by simp [IntKind.wrap, IntKind.bits, IntKind.signed]; omega
        have d5 : decide (0 < k) = true := decide_eq_true (by omega)
        by_cases h6 : xd ≤ yd
        · have VV : Hid (V = false) := VN.out (fun h => by have := RC.out.1 h; omega)
          go_wp2_with fail
          go_quiet (fail)
          go_wp2_with fail
          go_ret
          exact ⟨by rw [VV.out]; rfl, below_drewN BB.out.2 _⟩
        · have RK : Hid (∀ j, j < k + 1 → rc l j) := fun j hj => by
            by_cases e : j = k
            · subst e; exact RC.out.2 (by omega)
            · exact BB.out.1 j (by omega)
          go_wp2_with fail
          go_quiet (fail)
          go_wp2_with fail
          go_roundw
          case rel => exact ⟨k + 1, by go_num, by omega, RK.out, below_drewN BB.out.2 _⟩
          case measure => simp [intOf]; omega
      · have RK : Hid (∀ j, j < k + 1 → rc l j) := fun j hj => by
          by_cases e : j = k
          · subst e; exact RC.out.2 (by omega)
          · exact BB.out.1 j (by omega)
        have d5 : decide (0 < k) = false := decide_eq_false (by omega)
        clear PR
        go_wp2_with fail
        go_quiet (fail)
        go_wp2_with fail
        go_roundw
        case rel => exact ⟨k + 1, by go_num, by omega, RK.out, below_drewN BB.out.2 _⟩
        case measure => simp [intOf]; omega
    · obtain rfl : k = L := by omega
      have VV : Hid (V = smOk (sumA l)) := VT.out BB.out.1
      go_wp2_with fail
      refine (AMT.out _ BB.out.2).mono ?_
      rintro e w2 ⟨v2, rfl, r2, b2⟩
      have B2 : Hid (Row 2 wr.heap.size w2 v2 (amL l) ∧ Below w.heap.size w w2) := ⟨r2, below_trans BB.out.2 b2⟩
      clear r2 b2
      go_wp2_with fail
      refine (RS.out _ _ _ B2.out.1).mono ?_
      rintro e w3 ⟨rfl, rfl⟩
      rw [← VV.out]
      generalize smV (sumA l) = sv
      go_wp2_with fail
      go_ret
      exact ⟨rfl, B2.out.2⟩

end Go.Proofs.Ytekejcpgoijoaab
