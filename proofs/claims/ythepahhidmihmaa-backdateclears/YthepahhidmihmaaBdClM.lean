/-
  Ours: what the moves of a balanced change add up to, as data.
-/
import Derived.Test.YthepahhidmihmaaBdSam
namespace Go.Proofs.Ythepahhidmihmaa
open Go.RowKit LedM BdM

namespace BdM
/-- Between nothing and what there was. -/
def Btw (x y : Int) : Prop := (0 ≤ x ∧ x ≤ y) ∨ (y ≤ x ∧ x ≤ 0)
theorem btw_it {l : List Int} (h : Bal l) : ∀ k j, Btw ((it k l).getD j 0) (l.getD j 0)
  | 0, j => by show Btw (l.getD j 0) _; unfold Btw; omega
  | k + 1, j => by
    have ih := fun j => btw_it h k j
    by_cases hz : it k l = z12
    · rw [show it (k + 1) l = it k l from (if_pos hz : (if it k l = z12 then it k l else nx (it k l)) = it k l)]
      exact ih j
    · rw [(it_go hz).1, (h.keeps k).nxD hz]
      have bal := h.keeps k
      obtain ⟨xp, yp, ne, a1⟩ := bal.two hz
      have al := am_le (l := it k l)
      have h1 := ih (fDn (it k l))
      have h2 := ih (fUp (it k l))
      have h3 := ih j
      unfold Btw at *
      split
      · rename_i e; rw [e]; omega
      · split
        · rename_i e; rw [e]; omega
        · exact h3
theorem it_end {l : List Int} (h : Bal l) : ∃ n, n ≤ 11 ∧ it n l = z12 ∧ (∀ i, i < n → it i l ≠ z12) := by
  have key : ∀ m, it m l = z12 → ∃ n, n ≤ m ∧ it n l = z12 ∧ (∀ i, i < n → it i l ≠ z12) := by
    intro m
    induction m with
    | zero => intro hz; exact ⟨0, Nat.le_refl _, hz, fun i hi => by omega⟩
    | succ m ih =>
      intro hz
      by_cases hy : it m l = z12
      · obtain ⟨n, h1, h2, h3⟩ := ih hy
        exact ⟨n, by omega, h2, h3⟩
      · exact ⟨m + 1, Nat.le_refl _, hz, fun i hi e => by
          by_cases hi2 : i = m
          · rw [hi2] at e; exact hy e
          · refine hy ?_
            have := (it_stop e (m - i)).1
            rwa [show i + (m - i) = m from by omega] at this⟩
  exact key 11 h.ends
theorem es_at {l : List Int} : ∀ n, (∀ i, i < n → it i l ≠ z12) → (es n l).length = n ∧ ∀ i, i < n → eN (es n l) i = ent (it i l)
  | 0, _ => ⟨rfl, fun i hi => by omega⟩
  | n + 1, h => by
    obtain ⟨a, b⟩ := es_at n (fun i hi => h i (by omega))
    rw [(it_go (h n (by omega))).2]
    refine ⟨by simp [a], fun i hi => ?_⟩
    by_cases e : i = n
    · subst e
      simp [eN, List.getD_eq_getElem?_getD, a]
    · have := b i (by omega)
      simp only [eN, List.getD_eq_getElem?_getD] at this ⊢
      rw [List.getElem?_append_left (by omega)]; exact this
/-- What the first moves add up to. -/
def smA (l : List Int) (i : Nat) : List Int := (List.range 12).map fun j => l.getD j 0 - (it i l).getD j 0
theorem smA_len (l : List Int) (i : Nat) : (smA l i).length = 12 := by simp [smA]
theorem smA_at (l : List Int) (i j : Nat) (hj : j < 12) : (smA l i).getD j 0 = l.getD j 0 - (it i l).getD j 0 := by
  simp [smA, List.getD_eq_getElem?_getD, hj]
theorem smA_0 {l : List Int} : smA l 0 = z12 := ext0 (by simp [smA]) fun j hj => by
  rw [smA_len] at hj
  rw [smA_at l 0 j hj, z12_at]; show l.getD j 0 - l.getD j 0 = 0; omega
theorem smA_end {l : List Int} (h : Bal l) {n : Nat} (hz : it n l = z12) : smA l n = l := ext0 (by rw [smA_len, h.len]) fun j hj => by
  rw [smA_len] at hj
  rw [smA_at l n j hj, hz, z12_at]; omega
theorem smA_step {l : List Int} (h : Bal l) {i : Nat} (hz : it i l ≠ z12) :
    smA l (i + 1) = ((smA l i).set (fUp (it i l)) ((smA l i).getD (fUp (it i l)) 0 + am (it i l))).set (fDn (it i l)) ((smA l i).getD (fDn (it i l)) 0 - am (it i l)) := by
  have bal := h.keeps i
  obtain ⟨uu, dd⟩ := bal.ne hz
  obtain ⟨_, _, ne, _⟩ := bal.two hz
  refine ext0 (by simp [smA_len]) fun j hj => ?_
  rw [smA_len] at hj
  rw [setD (by simp [smA_len]; omega), setD (by rw [smA_len]; omega), smA_at _ _ _ hj, smA_at _ _ _ hj, smA_at _ _ _ uu, smA_at _ _ _ dd, (it_go hz).1, bal.nxD hz]
  by_cases e1 : j = fDn (it i l)
  · rw [if_pos e1, if_pos e1, e1]; omega
  · rw [if_neg e1, if_neg e1]
    by_cases e2 : j = fUp (it i l)
    · rw [if_pos e2, if_pos e2, e2]; omega
    · rw [if_neg e2, if_neg e2]
theorem smA_ok {l : List Int} (h : Bal l) (i : Nat) : BkOk (smA l i) := ⟨smA_len _ _, fun j => by
  by_cases hj : j < 12
  · rw [smA_at l i j hj]
    have := btw_it h i j
    have := h.bnd j
    unfold Btw at *; unfold i64; omega
  · rw [List.getD_eq_getElem?_getD, List.getElem?_eq_none (by rw [smA_len]; omega)]; unfold i64; simp⟩

/-- What the statement puts into an account; the book while it is filled. -/
def put (xs : List Int) (j : Nat) : Int := if j < xs.length ∧ -500000000000000000 < xs.getD j 0 ∧ xs.getD j 0 < 500000000000000000 then xs.getD j 0 else 0
theorem put_le (xs : List Int) (j : Nat) : -500000000000000000 < put xs j ∧ put xs j < 500000000000000000 := by
  unfold put; split
  · rename_i h; exact h.2
  · omega
def fb (xs : List Int) (k : Nat) : List Int := (List.range 12).map fun j => if j < k then put xs j else 0
theorem fb_len (xs : List Int) (k : Nat) : (fb xs k).length = 12 := by simp [fb]
theorem fb_at (xs : List Int) (k j : Nat) (hj : j < 12) : (fb xs k).getD j 0 = if j < k then put xs j else 0 := by
  simp [fb, List.getD_eq_getElem?_getD, hj]
theorem fb_0 (xs : List Int) : fb xs 0 = z12 := by rfl
theorem fb_step (xs : List Int) {k : Nat} (hk : k < 12) : fb xs (k + 1) = (fb xs k).set k (put xs k) := ext0 (by simp [fb_len]) fun j hj => by
  rw [fb_len] at hj
  rw [setD (by rw [fb_len]; exact hk), fb_at _ _ _ hj, fb_at _ _ _ hj]
  by_cases e : j = k
  · rw [if_pos e, if_pos (by omega), e]
  · rw [if_neg e]
    by_cases h : j < k
    · rw [if_pos h, if_pos (by omega)]
    · rw [if_neg h, if_neg (by omega)]
theorem fb_skip (xs : List Int) {k : Nat} (hk : k < 12) (h0 : put xs k = 0) : fb xs (k + 1) = fb xs k := by
  rw [fb_step xs hk, h0]
  refine ext0 (by simp [fb_len]) fun j hj => ?_
  simp only [List.length_set, fb_len] at hj
  rw [setD (by rw [fb_len]; exact hk), fb_at _ _ _ hj]
  split
  · rename_i e; subst e; simp
  · rfl
theorem fb_total (xs : List Int) {k : Nat} (hk : k < 12) : total (fb xs (k + 1)) = total (fb xs k) + put xs k := by
  rw [fb_step xs hk, total_set _ _ _ (by rw [fb_len]; exact hk), fb_at _ _ _ hk, if_neg (by omega)]; omega
theorem fb_bound (xs : List Int) : ∀ k : Nat, k ≤ 12 → -(500000000000000000 * (k : Int)) ≤ total (fb xs k) ∧ total (fb xs k) ≤ 500000000000000000 * (k : Int)
  | 0, _ => by rw [fb_0]; decide
  | k + 1, h => by
    have ih := fb_bound xs k (by omega)
    have := put_le xs k
    rw [fb_total xs (by omega)]; omega
/-- The statement's book. -/
def bk0 (xs : List Int) : List Int := (fb xs 11).set 11 (-(total (fb xs 11)))
theorem bk0_at (xs : List Int) (j : Nat) (hj : j < 12) : (bk0 xs).getD j 0 = if j = 11 then -(total (fb xs 11)) else put xs j := by
  unfold bk0
  rw [setD (by rw [fb_len]; omega), fb_at _ _ _ hj]
  by_cases e : j = 11
  · rw [if_pos e, if_pos e]
  · rw [if_neg e, if_neg e, if_pos (by omega)]
theorem bk0_len (xs : List Int) : (bk0 xs).length = 12 := by simp [bk0, fb_len]
theorem bk0_bal (xs : List Int) : Bal (bk0 xs) := ⟨bk0_len xs, by
    unfold bk0
    rw [total_set _ _ _ (by rw [fb_len]; omega), fb_at _ _ _ (by omega), if_neg (by omega)]; omega, fun k => by
    by_cases hk : k < 12
    · rw [bk0_at xs k hk]
      have := fb_bound xs 11 (by omega)
      have := put_le xs k
      split <;> omega
    · rw [List.getD_eq_getElem?_getD, List.getElem?_eq_none (by rw [bk0_len]; omega)]; simp⟩
theorem ok_bal {l : List Int} (h : Bal l) : okB l = true := by
  unfold okB
  rw [h.sum]
  have : l.contains (-9223372036854775808) = false := by
    rw [List.contains_eq_mem, decide_eq_false_iff_not]
    intro hm
    obtain ⟨j, hj, e⟩ := List.getElem_of_mem hm
    have := h.bnd j
    rw [List.getD_eq_getElem?_getD, List.getElem?_eq_getElem hj] at this
    simp only [Option.getD_some] at this
    omega
  rw [this]; rfl
/-- With a cent more. -/
def bk1 (xs : List Int) : List Int := (bk0 xs).set 0 ((bk0 xs).getD 0 0 + 1)
theorem bk1_ok (xs : List Int) : BkOk (bk1 xs) ∧ okB (bk1 xs) = false ∧ mv (bk1 xs) = [] := by
  have hb := bk0_bal xs
  have h0 : okB (bk1 xs) = false := by
    unfold okB
    have : total (bk1 xs) = 1 := by unfold bk1; rw [total_set _ _ _ (by rw [bk0_len]; omega), hb.sum]; omega
    rw [this]; rfl
  refine ⟨⟨by simp [bk1, bk0_len], fun k => ?_⟩, h0, by unfold mv; rw [h0]; rfl⟩
  unfold bk1
  rw [setD (by rw [bk0_len]; omega)]
  have h1 := bk0_at xs 0 (by omega)
  have := put_le xs 0
  have := hb.bnd k
  unfold i64
  split
  · rw [h1, if_neg (by omega)]; omega
  · omega
end BdM
end Go.Proofs.Ythepahhidmihmaa
