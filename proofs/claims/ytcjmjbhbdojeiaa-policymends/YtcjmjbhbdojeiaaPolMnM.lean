/-
  Ours: a policy that is mended field by field: pure.
-/
import Derived.Test.YtcjmjbhbdojeiaaPolBey
import Derived.Test.YtcjmjbhbdojeiaaPolMade
namespace Go.Proofs.Ytcjmjbhbdojeiaa
open Go.RowKit LedM PolM
namespace PolM
theorem getD_set {l : List Int} {k : Nat} (hk : k < l.length) (x : Int) (j : Nat) : (l.set k x).getD j 0 = if j = k then x else l.getD j 0 := by
  rw [List.getD_eq_getElem?_getD, List.getD_eq_getElem?_getD, List.getElem?_set]
  by_cases h : k = j
  · subst h; simp [hk]
  · rw [if_neg h, if_neg (fun e => h e.symm)]
theorem frm_agree {l m : List Int} {j : Nat} (h : ∀ i, i < j → l.getD i 0 = m.getD i 0) : frm l j = frm m j := by
  unfold frm
  split
  · rfl
  · rw [h 1 (by omega)]
  · rfl
  · rw [h 5 (by omega)]
  · rfl
  · rfl
  · rw [h 14 (by omega)]
  · rfl
theorem frm_set {l : List Int} {k j : Nat} (x : Int) (h : j ≤ k) (hk : k < l.length) : frm (l.set k x) j = frm l j := frm_agree fun i hi => by rw [getD_set hk, if_neg (by omega)]
theorem fld_set {l : List Int} {k j : Nat} (x : Int) (h : j < k) (hk : k < l.length) : fld (l.set k x) j = fld l j := by
  unfold fld
  rw [frm_set x (by omega) hk, getD_set hk, if_neg (by omega)]
/-- One field put beyond its range. -/
theorem chk_set {l hs ys : List Int} (hl : l.length = 17) (h : ∀ j, j < 18 → may l hs j = true) (k : Nat) (hk : k < 18) (x : Int) (hx : k < 17 → ¬ (frm l k ≤ x ∧ x ≤ tov k)) (hy : k = 17 → hol ys = false) :
    chk (l.set k x) (if k = 17 then ys else hs) = k + 1 := by
  refine chk_stop hk (fun j hj => ?_) ?_
  · have hm := h j (by omega)
    unfold may at hm ⊢
    rw [if_pos (by omega)] at hm ⊢
    by_cases h17 : k = 17
    · subst h17
      rw [List.set_eq_of_length_le (by omega)]; exact hm
    · rw [fld_set x hj (by omega)]; exact hm
  · unfold may
    by_cases h17 : k = 17
    · subst h17
      rw [if_neg (by omega), if_pos rfl]; exact hy rfl
    · rw [if_pos (by omega)]
      unfold fld
      rw [frm_set x (Nat.le_refl _) (by omega), getD_set (by omega), if_pos rfl]
      exact decide_eq_false (hx (by omega))
theorem upL_at (k : Nat) (hk : k < 17) : upL.getD k 0 = tov k + 1 := by
  match k, hk with
  | 0, _ | 1, _ | 2, _ | 3, _ | 4, _ | 5, _ | 6, _ | 7, _ | 8, _ | 9, _ | 10, _ | 11, _ | 12, _ | 13, _ | 14, _ | 15, _ | 16, _ => rfl
  | k + 17, h => omega
theorem dnL_at (l : List Int) (k : Nat) (hk : k < 17) : (dnL l).getD k 0 = frm l k - 1 := by
  match k, hk with
  | 2, _ => show l.getD 1 0 = l.getD 1 0 + 1 - 1; omega
  | 0, _ | 1, _ | 3, _ | 4, _ | 5, _ | 6, _ | 7, _ | 8, _ | 9, _ | 10, _ | 11, _ | 12, _ | 13, _ | 14, _ | 15, _ | 16, _ => rfl
  | k + 17, h => omega
theorem chk_up {l hs : List Int} (hl : l.length = 17) (h : ∀ j, j < 18 → may l hs j = true) (k : Nat) (hk : k < 18) : chk (l.set k (upL.getD k 0)) (if k = 17 then [3652060] else hs) = k + 1 :=
  chk_set hl h k hk _ (fun h' => by rw [upL_at k h']; omega) (fun _ => by decide)
theorem chk_dn {l hs : List Int} (hl : l.length = 17) (h : ∀ j, j < 18 → may l hs j = true) (k : Nat) (hk : k < 18) : chk (l.set k ((dnL l).getD k 0)) (if k = 17 then [5, 5] else hs) = k + 1 :=
  chk_set hl h k hk _ (fun h' => by rw [dnL_at l k h']; omega) (fun _ => by decide)

/-- The policy whose first fields are mended. -/
def mixL (m l : List Int) (n : Nat) : List Int := m.take n ++ l.drop n
theorem mix_len {m l : List Int} (hm : m.length = 17) (hl : l.length = 17) (n : Nat) : (mixL m l n).length = 17 := by
  unfold mixL; rw [List.length_append, List.length_take, List.length_drop]; omega
theorem mix_at {m l : List Int} (hm : m.length = 17) (n j : Nat) (hj : j < 17) : (mixL m l n).getD j 0 = if j < n then m.getD j 0 else l.getD j 0 := by
  unfold mixL
  rw [List.getD_eq_getElem?_getD]
  by_cases h : j < n
  · rw [List.getElem?_append_left (by rw [List.length_take]; omega), List.getElem?_take, if_pos h, if_pos h, ← List.getD_eq_getElem?_getD]
  · rw [List.getElem?_append_right (by rw [List.length_take]; omega), List.length_take, List.getElem?_drop, if_neg h, ← List.getD_eq_getElem?_getD]
    rw [show n + (j - min n m.length) = j by omega]
theorem mix_all {m l : List Int} (hm : m.length = 17) (hl : l.length = 17) : mixL m l 18 = m := by
  unfold mixL; rw [List.take_of_length_le (by omega), List.drop_of_length_le (by omega), List.append_nil]
theorem mix_zero (m l : List Int) : mixL m l 0 = l := rfl
theorem list17_eq {a b : List Int} (ha : a.length = 17) (hb : b.length = 17) (h : ∀ j, j < 17 → a.getD j 0 = b.getD j 0) : a = b := list_eq_getD (by omega) (fun j hj => h j (by omega))
/-- A mending step. -/
theorem mend {l hs : List Int} (hl : l.length = 17) (last : Nat) (h18 : last ≤ 18) :
    chk (mixL (madeL l) l last) (if last = 18 then risL 0 64 hs else hs) = 0 ∨
    ∃ n, n < 18 ∧ last ≤ n ∧ chk (mixL (madeL l) l last) (if last = 18 then risL 0 64 hs else hs) = n + 1 ∧
      chk ((madeL l).set n (l.getD n 0)) (if n = 17 then hs else risL 0 64 hs) = n + 1 ∧
      (mixL (madeL l) l last).set n ((madeL l).getD n 0) = mixL (madeL l) l (n + 1) := by
  have hm := made_len l
  rcases chk_cases (mixL (madeL l) l last) (if last = 18 then risL 0 64 hs else hs) with ⟨h, _⟩ | ⟨n, hn, hc, hb, hf⟩
  · exact .inl h
  · refine .inr ⟨n, hn, ?_, hc, ?_, ?_⟩
    · rcases Nat.lt_or_ge n last with hlt | hge
      · exfalso
        have hg := made_may l hs n hn
        unfold may at hg hf
        by_cases h17 : n < 17
        · rw [if_pos h17] at hg hf
          unfold fld at hg hf
          rw [mix_at hm last n h17, if_pos hlt, frm_agree (m := madeL l) (fun i hi => by rw [mix_at hm last i (by omega), if_pos (by omega)])] at hf
          rw [hf] at hg; cases hg
        · rw [if_neg h17] at hg hf
          rw [if_pos (by omega)] at hf
          rw [hf] at hg; cases hg
      · exact hge
    all_goals
      have ag : ∀ j, j < n → j < 17 → (mixL (madeL l) l last).getD j 0 = (madeL l).getD j 0 := fun j => by
        induction j using Nat.strongRecOn with
        | _ j ih =>
          intro hj h17
          rw [mix_at hm last j h17]
          split
          · rfl
          · rename_i hnl
            have hmj := hb j hj
            unfold may at hmj
            rw [if_pos h17] at hmj
            have hd := of_decide_eq_true hmj
            rw [mix_at hm last j h17, if_neg hnl, frm_agree (m := madeL l) (fun i hi => ih i hi (by omega) (by omega))] at hd
            rw [made_at l j h17, inV_same hd]
    · have lge : n < 17 → ¬ n < last → (mixL (madeL l) l last).getD n 0 = l.getD n 0 := fun h17 h => by rw [mix_at hm last n h17, if_neg h]
      refine chk_set hm (made_may l hs) n hn _ (fun h17 => ?_) (fun h17 => ?_)
      · unfold may at hf
        rw [if_pos h17] at hf
        have hd := of_decide_eq_false hf
        rw [frm_agree (m := madeL l) (fun i hi => ag i hi (by omega))] at hd
        by_cases hnl : n < last
        · rw [mix_at hm last n h17, if_pos hnl] at hd
          exact absurd (made_fld l n h17) hd
        · rw [mix_at hm last n h17, if_neg hnl] at hd
          exact hd
      · subst h17
        unfold may at hf
        rw [if_neg (by omega)] at hf
        by_cases h : last = 18
        · rw [if_pos h, hol_ris] at hf; cases hf
        · rwa [if_neg h] at hf
    · have L := mix_len hm hl last
      refine list17_eq (by rw [List.length_set]; exact L) (mix_len hm hl _) (fun j hj => ?_)
      rw [mix_at hm (n + 1) j hj]
      by_cases h17 : n = 17
      · subst h17
        rw [List.set_eq_of_length_le (by omega), if_pos (by omega)]
        exact ag j (by omega) hj
      · rw [getD_set (by omega)]
        by_cases e : j = n
        · rw [if_pos e, if_pos (by omega), e]
        · rw [if_neg e]
          by_cases h : j < n
          · rw [if_pos (by omega)]; exact ag j h hj
          · rw [if_neg (by omega), mix_at hm last j hj]
            split
            · rename_i hjl
              exfalso
              have : n < last := by omega
              have hg := made_may l hs n hn
              unfold may at hg hf
              rw [if_pos (by omega)] at hg hf
              unfold fld at hg hf
              rw [mix_at hm last n (by omega), if_pos this, frm_agree (m := madeL l) (fun i hi => by rw [mix_at hm last i (by omega), if_pos (by omega)])] at hf
              rw [hf] at hg; cases hg
            · rfl
end PolM
end Go.Proofs.Ytcjmjbhbdojeiaa
