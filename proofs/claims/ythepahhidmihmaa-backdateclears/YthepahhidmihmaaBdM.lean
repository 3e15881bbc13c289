/-
  Ours: the moves that bring a balanced change to nothing, as data.
-/
import Derived.Test.YthepahhidmihmaaLedCat
import Derived.Test.YthepahhidmihmaaSum
namespace Go.Proofs.Ythepahhidmihmaa
open Go.RowKit LedM

namespace BdM
/-- The first number that is above 0; below it. -/
def fUp : List Int → Nat
  | [] => 0
  | x :: r => if 0 < x then 0 else fUp r + 1
def fDn : List Int → Nat
  | [] => 0
  | x :: r => if x < 0 then 0 else fDn r + 1
theorem fUp_le : ∀ l : List Int, fUp l ≤ l.length
  | [] => Nat.le_refl _
  | x :: r => by have := fUp_le r; simp only [fUp, List.length_cons]; split <;> omega
theorem fDn_le : ∀ l : List Int, fDn l ≤ l.length
  | [] => Nat.le_refl _
  | x :: r => by have := fDn_le r; simp only [fDn, List.length_cons]; split <;> omega
theorem fUp_at : ∀ l : List Int, fUp l < l.length → 0 < l.getD (fUp l) 0
  | [], h => by simp at h
  | x :: r, h => by
    simp only [fUp] at h ⊢
    split
    · simpa using by assumption
    · rename_i hx
      rw [if_neg hx] at h
      have := fUp_at r (by simpa using h)
      simpa using this
theorem fDn_at : ∀ l : List Int, fDn l < l.length → l.getD (fDn l) 0 < 0
  | [], h => by simp at h
  | x :: r, h => by
    simp only [fDn] at h ⊢
    split
    · simpa using by assumption
    · rename_i hx
      rw [if_neg hx] at h
      have := fDn_at r (by simpa using h)
      simpa using this
theorem fUp_lt : ∀ (l : List Int) (j : Nat), j < fUp l → l.getD j 0 ≤ 0
  | [], j, h => by simp
  | x :: r, j, h => by
    simp only [fUp] at h
    split at h
    · omega
    · rename_i hx
      cases j with
      | zero => simp; omega
      | succ j => have := fUp_lt r j (by omega); simpa using this
theorem fDn_lt : ∀ (l : List Int) (j : Nat), j < fDn l → 0 ≤ l.getD j 0
  | [], j, h => by simp
  | x :: r, j, h => by
    simp only [fDn] at h
    split at h
    · omega
    · rename_i hx
      cases j with
      | zero => simp; omega
      | succ j => have := fDn_lt r j (by omega); simpa using this
theorem fUp_is {l : List Int} {k : Nat} (hk : k < l.length) (h : 0 < l.getD k 0) (hb : ∀ j, j < k → l.getD j 0 ≤ 0) : fUp l = k := by
  by_cases h1 : fUp l < k
  · have := fUp_at l (by omega); have := hb _ h1; omega
  · by_cases h2 : k < fUp l
    · have := fUp_lt l k h2; omega
    · omega
theorem fDn_is {l : List Int} {k : Nat} (hk : k < l.length) (h : l.getD k 0 < 0) (hb : ∀ j, j < k → 0 ≤ l.getD j 0) : fDn l = k := by
  by_cases h1 : fDn l < k
  · have := fDn_at l (by omega); have := hb _ h1; omega
  · by_cases h2 : k < fDn l
    · have := fDn_lt l k h2; omega
    · omega

theorem setD {l : List Int} {k j : Nat} {x : Int} (hk : k < l.length) : (l.set k x).getD j 0 = if j = k then x else l.getD j 0 := by
  simp only [List.getD_eq_getElem?_getD, List.getElem?_set]
  by_cases h : k = j
  · subst h; simp [hk]
  · simp only [h, if_false]; rw [if_neg (fun e : j = k => h e.symm)]
theorem total_set : ∀ (l : List Int) (k : Nat) (x : Int), k < l.length → total (l.set k x) = total l - l.getD k 0 + x
  | y :: r, 0, x, _ => by simp [total]; omega
  | y :: r, k + 1, x, h => by
    have := total_set r k x (by simpa using h)
    simp only [List.set_cons_succ, total, this, List.getD_cons_succ]; omega

abbrev z12 : List Int := [0, 0, 0, 0, 0, 0, 0, 0, 0, 0, 0, 0]
def am (l : List Int) : Int := if -l.getD (fDn l) 0 < l.getD (fUp l) 0 then -l.getD (fDn l) 0 else l.getD (fUp l) 0
def n1 (l : List Int) : List Int := l.set (fUp l) (l.getD (fUp l) 0 - am l)
def nx (l : List Int) : List Int := (n1 l).set (fDn l) ((n1 l).getD (fDn l) 0 + am l)
def ent (l : List Int) : Ent := ⟨fUp l, fDn l, am l⟩
def it : Nat → List Int → List Int
  | 0, l => l
  | k + 1, l => if it k l = z12 then it k l else nx (it k l)
def es : Nat → List Int → List Ent
  | 0, _ => []
  | k + 1, l => if it k l = z12 then es k l else es k l ++ [ent (it k l)]
/-- How many are not 0. -/
def nz : List Int → Nat
  | [] => 0
  | x :: r => (if x = 0 then 0 else 1) + nz r
theorem nz_le : ∀ l : List Int, nz l ≤ l.length
  | [] => Nat.le_refl _
  | x :: r => by have := nz_le r; simp only [nz, List.length_cons]; split <;> omega
theorem nz_set : ∀ (l : List Int) (k : Nat) (x : Int), k < l.length → nz (l.set k x) + (if l.getD k 0 = 0 then 0 else 1) = nz l + (if x = 0 then 0 else 1)
  | y :: r, 0, x, _ => by simp [nz]; omega
  | y :: r, k + 1, x, h => by
    have := nz_set r k x (by simpa using h)
    simp only [List.set_cons_succ, nz, List.getD_cons_succ]; omega
theorem total_up : ∀ l : List Int, (∀ j, j < l.length → 0 ≤ l.getD j 0) → 0 ≤ total l ∧ (total l = 0 → ∀ j, l.getD j 0 = 0)
  | [], _ => by simp [total]
  | x :: r, h => by
    have ih := total_up r (fun j hj => by have := h (j + 1) (by simpa using hj); simpa using this)
    have h0 : 0 ≤ x := by have := h 0 (by simp); simpa using this
    refine ⟨by simp only [total]; omega, fun e j => ?_⟩
    simp only [total] at e
    cases j with
    | zero => simp; omega
    | succ j => have := ih.2 (by omega) j; simpa using this
theorem total_dn : ∀ l : List Int, (∀ j, j < l.length → l.getD j 0 ≤ 0) → total l ≤ 0 ∧ (total l = 0 → ∀ j, l.getD j 0 = 0)
  | [], _ => by simp [total]
  | x :: r, h => by
    have ih := total_dn r (fun j hj => by have := h (j + 1) (by simpa using hj); simpa using this)
    have h0 : x ≤ 0 := by have := h 0 (by simp); simpa using this
    refine ⟨by simp only [total]; omega, fun e j => ?_⟩
    simp only [total] at e
    cases j with
    | zero => simp; omega
    | succ j => have := ih.2 (by omega) j; simpa using this
theorem ext0 {a b : List Int} (h0 : a.length = b.length) (h : ∀ j, j < a.length → a.getD j 0 = b.getD j 0) : a = b := by
  apply List.ext_getElem h0
  intro i h1 h2
  have := h i h1
  simpa [List.getD_eq_getElem?_getD, List.getElem?_eq_getElem h1, List.getElem?_eq_getElem h2] using this
theorem z12_at (j : Nat) : z12.getD j 0 = 0 := by
  match j with
  | 0 | 1 | 2 | 3 | 4 | 5 | 6 | 7 | 8 | 9 | 10 | 11 => rfl
  | j + 12 => rfl

/-- A change that balances, whose nets' signs can be turned. -/
structure Bal (l : List Int) : Prop where
  len : l.length = 12
  sum : total l = 0
  bnd : ∀ k, -9223372036854775807 ≤ l.getD k 0 ∧ l.getD k 0 ≤ 9223372036854775807
theorem Bal.ne {l : List Int} (h : Bal l) (hz : l ≠ z12) : fUp l < 12 ∧ fDn l < 12 := by
  refine ⟨?_, ?_⟩
  · refine Classical.byContradiction fun hh => hz ?_
    have := total_dn l (fun j hj => fUp_lt l j (by have := h.len; omega))
    exact ext0 (by rw [h.len]; rfl) fun j _ => by rw [this.2 h.sum j, z12_at]
  · refine Classical.byContradiction fun hh => hz ?_
    have := total_up l (fun j hj => fDn_lt l j (by have := h.len; omega))
    exact ext0 (by rw [h.len]; rfl) fun j _ => by rw [this.2 h.sum j, z12_at]
theorem Bal.two {l : List Int} (h : Bal l) (hz : l ≠ z12) : 0 < l.getD (fUp l) 0 ∧ l.getD (fDn l) 0 < 0 ∧ fUp l ≠ fDn l ∧ 1 ≤ am l := by
  obtain ⟨a, b⟩ := h.ne hz
  have h1 := fUp_at l (by rw [h.len]; exact a)
  have h2 := fDn_at l (by rw [h.len]; exact b)
  refine ⟨h1, h2, fun e => by rw [e] at h1; omega, ?_⟩
  unfold am; split <;> omega
theorem Bal.n1D {l : List Int} (h : Bal l) (hz : l ≠ z12) (j : Nat) : (n1 l).getD j 0 = if j = fUp l then l.getD (fUp l) 0 - am l else l.getD j 0 := setD (by rw [h.len]; exact (h.ne hz).1)
theorem n1_len (l : List Int) : (n1 l).length = l.length := by simp [n1]
theorem nx_len (l : List Int) : (nx l).length = l.length := by simp [nx, n1]
theorem Bal.nxD {l : List Int} (h : Bal l) (hz : l ≠ z12) (j : Nat) : (nx l).getD j 0 = if j = fDn l then l.getD (fDn l) 0 + am l else if j = fUp l then l.getD (fUp l) 0 - am l else l.getD j 0 := by
  have e := setD (l := n1 l) (k := fDn l) (j := j) (x := (n1 l).getD (fDn l) 0 + am l) (by rw [n1_len, h.len]; exact (h.ne hz).2)
  rw [h.n1D hz j] at e
  have e2 := h.n1D hz (fDn l)
  rw [if_neg (fun e => (h.two hz).2.2.1 e.symm)] at e2
  rw [e2] at e
  unfold nx
  rw [e2]
  exact e
theorem am_le {l : List Int} : am l ≤ l.getD (fUp l) 0 ∧ am l ≤ -l.getD (fDn l) 0 ∧ (am l = l.getD (fUp l) 0 ∨ am l = -l.getD (fDn l) 0) := by
  unfold am; split <;> omega
theorem Bal.next {l : List Int} (h : Bal l) (hz : l ≠ z12) : Bal (nx l) ∧ nz (nx l) < nz l := by
  obtain ⟨u, d⟩ := h.ne hz
  obtain ⟨p, q, ne, a1⟩ := h.two hz
  have al := am_le (l := l)
  have hl := h.len
  refine ⟨⟨by rw [nx_len]; exact hl, ?_, fun k => ?_⟩, ?_⟩
  · unfold nx
    rw [total_set _ _ _ (by rw [n1_len]; omega)]
    unfold n1
    rw [total_set _ _ _ (by omega), h.sum]; omega
  · rw [h.nxD hz]
    have b1 := h.bnd k
    have b2 := h.bnd (fDn l)
    have b3 := h.bnd (fUp l)
    split
    · omega
    · split <;> omega
  · have e1 := nz_set l (fUp l) (l.getD (fUp l) 0 - am l) (by omega)
    have e2 := nz_set (n1 l) (fDn l) ((n1 l).getD (fDn l) 0 + am l) (by rw [n1_len]; omega)
    have e3 := h.n1D hz (fDn l)
    rw [if_neg (fun e => ne e.symm)] at e3
    rw [e3] at e2
    rw [if_neg (by omega)] at e1 e2
    have e4 : nx l = (n1 l).set (fDn l) (l.getD (fDn l) 0 + am l) := by unfold nx; rw [e3]
    rw [e4]
    have e5 : n1 l = l.set (fUp l) (l.getD (fUp l) 0 - am l) := rfl
    rw [← e5] at e1
    rcases al.2.2 with h1 | h1
    · rw [if_pos (by omega)] at e1
      split at e2 <;> omega
    · rw [if_pos (by omega)] at e2
      split at e1 <;> omega
theorem Bal.keeps {l : List Int} (h : Bal l) : ∀ k, Bal (it k l)
  | 0 => h
  | k + 1 => by
    have ih := h.keeps k
    unfold it
    split
    · exact ih
    · rename_i hz; exact (ih.next hz).1
theorem it_ne {l : List Int} {k : Nat} (h : it (k + 1) l ≠ z12) : it k l ≠ z12 := fun e => h (by unfold it; rw [if_pos e]; exact e)
theorem Bal.nz2 {l : List Int} (h : Bal l) (hz : l ≠ z12) : 2 ≤ nz l := by
  have e := (h.next hz).2
  obtain ⟨u, d⟩ := h.ne hz
  obtain ⟨p, q, ne, a1⟩ := h.two hz
  have hl := h.len
  -- two that are not 0
  have e1 := nz_set l (fUp l) 0 (by omega)
  have e2 := nz_set (l.set (fUp l) 0) (fDn l) 0 (by simp; omega)
  rw [if_neg (by omega), if_pos rfl] at e1
  rw [setD (j := fDn l) (by omega), if_neg (show ¬ fDn l = fUp l from fun e => ne e.symm), if_neg (by omega), if_pos rfl] at e2
  omega
theorem Bal.many {l : List Int} (h : Bal l) : ∀ k, it k l ≠ z12 → nz (it k l) + k ≤ 12
  | 0, _ => by have := nz_le l; have := h.len; show nz l + 0 ≤ 12; omega
  | k + 1, hz => by
    have hz' := it_ne hz
    have ih := h.many k hz'
    have e : it (k + 1) l = nx (it k l) := (if_neg hz' : (if it k l = z12 then it k l else nx (it k l)) = nx (it k l))
    rw [e]
    have := ((h.keeps k).next hz').2
    omega
theorem Bal.short {l : List Int} (h : Bal l) {k : Nat} (hz : it k l ≠ z12) : k ≤ 10 := by
  have a := h.many k hz
  have b := (h.keeps k).nz2 hz
  omega
theorem it_stop {l : List Int} {k : Nat} (hz : it k l = z12) : ∀ j, it (k + j) l = z12 ∧ es (k + j) l = es k l
  | 0 => ⟨hz, rfl⟩
  | j + 1 => by
    obtain ⟨a, b⟩ := it_stop hz j
    have c : (if it (k + j) l = z12 then it (k + j) l else nx (it (k + j) l)) = it (k + j) l := if_pos a
    have d : (if it (k + j) l = z12 then es (k + j) l else es (k + j) l ++ [ent (it (k + j) l)]) = es (k + j) l := if_pos a
    exact ⟨c.trans a, d.trans b⟩
theorem it_go {l : List Int} {k : Nat} (hz : it k l ≠ z12) : it (k + 1) l = nx (it k l) ∧ es (k + 1) l = es k l ++ [ent (it k l)] := by
  have a : (if it k l = z12 then it k l else nx (it k l)) = nx (it k l) := if_neg hz
  have b : (if it k l = z12 then es k l else es k l ++ [ent (it k l)]) = es k l ++ [ent (it k l)] := if_neg hz
  exact ⟨a, b⟩
theorem es_len {l : List Int} : ∀ k, (es k l).length ≤ k
  | 0 => Nat.le_refl _
  | k + 1 => by
    have := es_len (l := l) k
    unfold es; split
    · omega
    · simp; omega
/-- What Entries answers: the moves, whether there are any. -/
def okB (l : List Int) : Bool := decide (total l = 0) && !(l.contains (-9223372036854775808))
def mv (l : List Int) : List Ent := if okB l then es 12 l else []
theorem es_all {l : List Int} {k : Nat} (hz : it k l = z12) (hk : k ≤ 12) : es k l = es 12 l := by
  have := (it_stop hz (12 - k)).2
  rw [show k + (12 - k) = 12 from by omega] at this
  exact this.symm
theorem Bal.ends {l : List Int} (h : Bal l) : it 11 l = z12 := by
  refine Classical.byContradiction fun hz => ?_
  have := h.short hz; omega
theorem Bal.eleven {l : List Int} (h : Bal l) : (es 12 l).length ≤ 11 := by
  rw [← es_all h.ends (by omega)]; exact es_len 11
theorem bal_of {l : List Int} (hl : BkOk l) (h : okB l = true) : Bal l := by
  unfold okB at h
  simp only [Bool.and_eq_true, decide_eq_true_eq, Bool.not_eq_true', List.contains_eq_mem, decide_eq_false_iff_not] at h
  refine ⟨hl.1, h.1, fun k => ?_⟩
  have b := hl.2 k
  unfold i64 at b
  by_cases hk : k < l.length
  · have : l.getD k 0 ≠ -9223372036854775808 := fun e => h.2 (by
      rw [List.getD_eq_getElem?_getD, List.getElem?_eq_getElem hk] at e
      simp at e
      rw [← e]; exact List.getElem_mem hk)
    omega
  · rw [List.getD_eq_getElem?_getD, List.getElem?_eq_none (by omega)]; simp
end BdM
end Go.Proofs.Ythepahhidmihmaa
