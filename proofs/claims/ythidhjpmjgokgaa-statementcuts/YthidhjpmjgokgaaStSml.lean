/-
  Ours: the statements' small; what follows from it (pure).
-/
import Derived.Test.YthidhjpmjgokgaaStWin
import Derived.Test.YthidhjpmjgokgaaLedAddM
namespace Go.Proofs.Ythidhjpmjgokgaa
open Go.RowKit LedM StM

namespace StM
/-- Movements whose sums are far within an int64. -/
def Sm (ms : List (List Int)) : Prop := ms.length ≤ 1000 ∧ ∀ m ∈ ms, ∀ j, j < 12 → -1000000000000000 ≤ m.getD (2 + j) 0 ∧ m.getD (2 + j) 0 ≤ 1000000000000000
def Bnd (l : List Int) : Prop := ∀ x ∈ l, -1000000000000000 ≤ x ∧ x ≤ 1000000000000000
theorem total_bnd : ∀ {l : List Int}, Bnd l → -1000000000000000 * (l.length : Int) ≤ total l ∧ total l ≤ 1000000000000000 * (l.length : Int)
  | [], _ => by simp [total]
  | x :: r, h => by
    have ih := total_bnd (l := r) (fun y hy => h y (List.mem_cons_of_mem _ hy))
    have hx := h x (List.mem_cons_self ..)
    simp only [total, List.length_cons, Int.natCast_add, Int.natCast_one]
    omega
/-- The column j of the movements of the days from one to another. -/
def wc (ms : List (List Int)) (j : Nat) : List Int := ms.map fun m => m.getD (2 + j) 0
theorem col_wc (ms : List (List Int)) (d : Int) (j : Nat) : (upl ms d).map (fun b => b.getD j 0) = wc (ms.filter fun m => decide (m.getD 0 0 ≤ d)) j := by
  unfold upl wc
  rw [List.map_map]
  refine List.map_congr_left fun m _ => ?_
  simp [List.getD_eq_getElem?_getD, List.getElem?_drop]
theorem wc_bnd {ms : List (List Int)} (h : Sm ms) (p : List Int → Bool) {j : Nat} (hj : j < 12) : Bnd (wc (ms.filter p) j) := fun x hx => by
  unfold wc at hx
  obtain ⟨m, hm, rfl⟩ := List.mem_map.1 hx
  exact h.2 m (List.mem_filter.1 hm).1 j hj
theorem up_bnd {ms : List (List Int)} (h : Sm ms) (d : Int) {j : Nat} (hj : j < 12) : -1000000000000000000 ≤ (sumB (upl ms d)).getD j 0 ∧ (sumB (upl ms d)).getD j 0 ≤ 1000000000000000000 := by
  rw [sumB_at _ j hj, col_wc]
  have b := total_bnd (wc_bnd h (fun m => decide (m.getD 0 0 ≤ d)) hj)
  have l : (wc (ms.filter fun m => decide (m.getD 0 0 ≤ d)) j).length ≤ 1000 := by
    unfold wc; rw [List.length_map]; exact Nat.le_trans (List.length_filter_le _ _) h.1
  omega
theorem up_fits {ms : List (List Int)} (h : Sm ms) (d : Int) : fitsL (sumB (upl ms d)) = true := fitsL_true fun j hj => by
  have := up_bnd h d hj
  unfold smOk
  exact decide_eq_true ⟨by omega, by omega⟩
/-- What stands behind a day and the movements up to another one are what stands behind that. -/
theorem cut_sum (d t : Int) (hdt : d ≤ t) (j : Nat) : ∀ ms : List (List Int), total (wc (ms.filter fun m => decide (m.getD 0 0 ≤ d)) j) + total (wc (win ms (d + 1) t) j) = total (wc (ms.filter fun m => decide (m.getD 0 0 ≤ t)) j)
  | [] => by simp [wc, win, total]
  | m :: r => by
    have ih := cut_sum d t hdt j r
    unfold win wc at ih ⊢
    by_cases h1 : m.getD 0 0 ≤ d
    · have h2 : m.getD 0 0 ≤ t := by omega
      have h3 : ¬ (d + 1 ≤ m.getD 0 0) := by omega
      rw [List.filter_cons_of_pos (by simpa using h1), List.filter_cons_of_neg (by simp only [Bool.and_eq_true, decide_eq_true_eq]; omega), List.filter_cons_of_pos (by simpa using h2), List.map_cons, List.map_cons]
      simp only [total]
      omega
    · by_cases h2 : m.getD 0 0 ≤ t
      · rw [List.filter_cons_of_neg (by simpa using h1), List.filter_cons_of_pos (by simp only [Bool.and_eq_true, decide_eq_true_eq]; omega), List.filter_cons_of_pos (by simpa using h2), List.map_cons, List.map_cons]
        simp only [total]
        omega
      · rw [List.filter_cons_of_neg (by simpa using h1), List.filter_cons_of_neg (by simp only [Bool.and_eq_true, decide_eq_true_eq]; omega), List.filter_cons_of_neg (by simpa using h2)]
        exact ih
theorem cut_at {ms : List (List Int)} {d t : Int} (hdt : d ≤ t) {j : Nat} (hj : j < 12) : (sumB (upl ms d)).getD j 0 + total (wc (win ms (d + 1) t) j) = (sumB (upl ms t)).getD j 0 := by
  rw [sumB_at _ j hj, sumB_at _ j hj, col_wc, col_wc]
  exact cut_sum d t hdt j ms
theorem wc_take (ms : List (List Int)) (j k : Nat) (hk : k < ms.length) : total (wc (ms.take (k + 1)) j) = total (wc (ms.take k) j) + (ms[k].getD (2 + j) 0) := by
  rw [List.take_add_one, List.getElem?_eq_getElem hk]
  unfold wc
  rw [List.map_append, total_append]
  show _ + total [ms[k].getD (2 + j) 0] = _
  simp only [total]
  omega
theorem wt_bnd {ms : List (List Int)} (h : Sm ms) (a b : Int) {j : Nat} (hj : j < 12) (k : Nat) : -1000000000000000000 ≤ total (wc ((win ms a b).take k) j) ∧ total (wc ((win ms a b).take k) j) ≤ 1000000000000000000 := by
  have hb : Bnd (wc ((win ms a b).take k) j) := fun x hx => by
    unfold wc at hx
    obtain ⟨m, hm, rfl⟩ := List.mem_map.1 hx
    exact h.2 m (List.mem_filter.1 (List.mem_of_mem_take hm)).1 j hj
  have b' := total_bnd hb
  have l : (wc ((win ms a b).take k) j).length ≤ 1000 := by
    unfold wc; rw [List.length_map, List.length_take]; have := win_le ms a b; have := h.1; omega
  omega
/-- The next movement within lies where those ahead of it end. -/
theorem win_next {ms : List (List Int)} {k : Nat} {m : List Int} (h : ms[k]? = some m) {a b : Int} (hc : a ≤ m.getD 0 0 ∧ m.getD 0 0 ≤ b) : (win ms a b)[(win (ms.take k) a b).length]? = some m ∧ (win (ms.take (k + 1)) a b).length = (win (ms.take k) a b).length + 1 := by
  have e : win (ms.take (k + 1)) a b = win (ms.take k) a b ++ [m] := by rw [take_push h, win_push, if_pos hc]
  have e2 : win ms a b = win (ms.take (k + 1)) a b ++ win (ms.drop (k + 1)) a b := by
    show List.filter _ _ = List.filter _ _ ++ List.filter _ _
    rw [← List.filter_append, List.take_append_drop]
  refine ⟨?_, by rw [e]; simp⟩
  rw [e2, e]
  simp
theorem win_skip {ms : List (List Int)} {k : Nat} {m : List Int} (h : ms[k]? = some m) {a b : Int} (hc : ¬ (a ≤ m.getD 0 0 ∧ m.getD 0 0 ≤ b)) : win (ms.take (k + 1)) a b = win (ms.take k) a b := by rw [take_push h, win_push, if_neg hc, List.append_nil]
end StM
/-- What small answers. -/
def SmAns (ms : List (List Int)) (w : World) (e : Ending) (w' : World) : Prop := ∃ b : Bool, e = .returned (.bool b) ∧ (b = true → Sm ms) ∧ w' = w
set_option maxRecDepth 20000 in
set_option maxHeartbeats 4000000 in
theorem small_at (ms : List (List Int)) (v : Value) (w : World) (h : RdMo w v ms) (ok : ∀ m ∈ ms, MoOk m) : Calls Try.prog 9 #[v] w (SmAns ms w) := by
  obtain ⟨ao, cap, rfl, hcap, hno, H⟩ := h
  obtain ⟨L, hL⟩ : ∃ L, ms.length = L := ⟨_, rfl⟩
  have CE : Hid (∀ i, i < L → ∀ j : Nat, j < 12 → ∃ g o, ao = some ⟨g, o, none⟩ ∧ w.cell? ⟨g, o + i * 14 + 2 + j, none⟩ = some (.int .i64 ((ms.getD i []).getD (2 + j) 0)) ∧ -9223372036854775808 ≤ (ms.getD i []).getD (2 + j) 0 ∧ (ms.getD i []).getD (2 + j) 0 ≤ 9223372036854775807) := fun i hi j hj => by
    have hm : ms[i]? = some (ms.getD i []) := by simp [List.getD_eq_getElem?_getD, List.getElem?_eq_getElem (show i < ms.length by omega)]
    obtain ⟨g, o, e, _, r⟩ := H i _ hm
    have mk := ok _ (List.mem_of_getElem? hm)
    have := r (2 + j) _ (bkL_at (by have := mk.1; omega))
    have b := mk.2 (2 + j)
    exact ⟨g, o, e, by rwa [← Nat.add_assoc] at this, b.1, b.2⟩
  have SM : Hid ((∀ i, i < L → ∀ j, j < 12 → -1000000000000000 ≤ (ms.getD i []).getD (2 + j) 0 ∧ (ms.getD i []).getD (2 + j) 0 ≤ 1000000000000000) → L ≤ 1000 → Sm ms) := fun hh hl => ⟨by omega, fun m hm j hj => by
    obtain ⟨i, hi, rfl⟩ := List.mem_iff_getElem.1 hm
    have := hh i (by omega) j hj
    simpa [List.getD_eq_getElem?_getD, List.getElem?_eq_getElem hi] using this⟩
  rw [hL] at hcap ⊢
  clear H hL ok hno
  generalize hf : (fun i j : Nat => (ms.getD i []).getD (2 + j) 0) = f at *
  have CE : Hid (∀ i, i < L → ∀ j : Nat, j < 12 → ∃ g o, ao = some ⟨g, o, none⟩ ∧ w.cell? ⟨g, o + i * 14 + 2 + j, none⟩ = some (.int .i64 (f i j)) ∧ -9223372036854775808 ≤ f i j ∧ f i j ≤ 9223372036854775807) := by subst hf; exact CE
  have SM : Hid ((∀ i, i < L → ∀ j, j < 12 → -1000000000000000 ≤ f i j ∧ f i j ≤ 1000000000000000) → L ≤ 1000 → Sm ms) := by subst hf; exact SM
  clear hf
  go_enter Try.func9, Try.ntmps9
  by_cases hn : (L : Int) > 1000
  · clear CE SM
    go_wp2_with fail
    go_ret
    exact ⟨false, rfl, (fun h => by cases h), rfl⟩
  go_wp2_with fail
  go_loopw [3, 4, 5] (fun vi _ _ wr => ∃ i : Nat, vi = .int .i64 (i : Int) ∧ i ≤ L ∧ Hid (∀ q, q < i → ∀ j, j < 12 → -1000000000000000 ≤ f q j ∧ f q j ≤ 1000000000000000) ∧ Hid (w = wr)) (fun vi _ _ _ => L - (intOf vi).toNat)
  case atStart => exact ⟨0, rfl, by omega, fun q hq => by omega, rfl⟩
  case round =>
    obtain ⟨i, rfl, hi, DN, hw⟩ := hrel
    obtain rfl := hw.out
    clear hw
    by_cases hlt : (i : Int) < (L : Int)
    · go_wp2_with fail
      go_loopw [4, 5] (fun vj _ wr => ∃ j : Nat, vj = .int .i64 (j : Int) ∧ j ≤ 12 ∧ Hid (∀ q, q < j → -1000000000000000 ≤ f i q ∧ f i q ≤ 1000000000000000) ∧ Hid (w = wr)) (fun vj _ _ => 12 - (intOf vj).toNat)
      case atStart => exact ⟨0, rfl, by omega, fun q hq => by omega, rfl⟩
      case round =>
        obtain ⟨j, rfl, hj, DJ, hw⟩ := hrel
        obtain rfl := hw.out
        clear hw
        by_cases hj2 : (j : Int) < 12
        · obtain ⟨g, o, rfl, c0, lo, hi2⟩ := CE.out i (by omega) j (by omega)
          have ES : Hid (∀ y, f i j = y → -1000000000000000 ≤ y ∧ y ≤ 1000000000000000 → ∀ q, q < j + 1 → -1000000000000000 ≤ f i q ∧ f i q ≤ 1000000000000000) := fun y hy hb q hq => by
            by_cases e : q = j
            · rw [e, hy]; exact hb
            · exact DJ.out q (by omega)
          have YE : Hid (∃ y, f i j = y) := ⟨_, rfl⟩
          obtain ⟨y, hy⟩ := YE.out
          rw [hy] at c0 lo hi2
          have ES := ES.out y hy
          have ES : Hid _ := ES
          clear CE SM hy YE DJ DN
          by_cases g1 : y > 1000000000000000
          · go_wp2_with fail
            go_ret
            exact ⟨false, rfl, (fun h => by cases h), rfl⟩
          · by_cases g2 : y < -1000000000000000
            · go_wp2_with fail
              go_ret
              exact ⟨false, rfl, (fun h => by cases h), rfl⟩
            · go_wp2_with fail
              go_roundw
              case rel => exact ⟨j + 1, by go_num, by omega, ES.out ⟨by omega, by omega⟩, trivial⟩
              case measure => simp [intOf]; omega
        · obtain rfl : j = 12 := by omega
          have D2 : Hid (∀ q, q < i + 1 → ∀ j, j < 12 → -1000000000000000 ≤ f q j ∧ f q j ≤ 1000000000000000) := fun q hq j hj => by
            by_cases e : q = i
            · rw [e]; exact DJ.out j hj
            · exact DN.out q (by omega) j hj
          clear CE SM DN DJ
          go_wp2_with fail
          go_roundw
          case rel => exact ⟨i + 1, by go_num, by omega, D2.out, trivial⟩
          case measure => simp [intOf]; omega
    · obtain rfl : i = L := by omega
      have SS := SM.out DN.out (by omega)
      clear CE SM DN
      go_wp2_with fail
      go_ret
      exact ⟨true, rfl, fun _ => SS, rfl⟩
end Go.Proofs.Ythidhjpmjgokgaa
