/-
  Ours: numbers as lists of digits in base two, the lowest first. No Go in sight.
-/
namespace Go.Proofs.YtmennknknecgjaaDoor

def val : List Int → Int
  | [] => 0
  | x :: r => x + 2 * val r

/-- Every entry is from 0 to n. -/
def Upto (n : Int) (xs : List Int) : Prop := ∀ k, 0 ≤ xs.getD k 0 ∧ xs.getD k 0 ≤ n

theorem Upto.mono {m n : Int} {xs : List Int} (h : Upto m xs) (hmn : m ≤ n) : Upto n xs := fun k => ⟨(h k).1, Int.le_trans (h k).2 hmn⟩
theorem Upto.nil {n : Int} (h : 0 ≤ n) : Upto n [] := fun k => by simp; exact h
theorem Upto.tail {n x : Int} {xs : List Int} (h : Upto n (x :: xs)) : Upto n xs := fun k => by have := h (k + 1); simpa using this
theorem Upto.drop {n : Int} {xs : List Int} (h : Upto n xs) (t : Nat) : Upto n (xs.drop t) := fun k => by
  have := h (t + k)
  simpa [List.getD_eq_getElem?_getD] using this
theorem Upto.take {n : Int} {xs : List Int} (h : Upto n xs) (hn : 0 ≤ n) (t : Nat) : Upto n (xs.take t) := fun k => by
  have := h k
  simp only [List.getD_eq_getElem?_getD, List.getElem?_take] at *
  split
  · exact this
  · simp; exact hn
theorem Upto.set {n x : Int} {xs : List Int} (h : Upto n xs) (i : Nat) (h0 : 0 ≤ x) (h1 : x ≤ n) : Upto n (xs.set i x) := fun k => by
  have := h k
  simp only [List.getD_eq_getElem?_getD, List.getElem?_set] at *
  split
  · split
    · exact ⟨h0, h1⟩
    · simp; omega
  · exact this
theorem Upto.push {n x : Int} {xs : List Int} (h : Upto n xs) (h0 : 0 ≤ x) (h1 : x ≤ n) : Upto n (xs ++ [x]) := fun k => by
  have := h k
  simp only [List.getD_eq_getElem?_getD, List.getElem?_append] at *
  split
  · exact this
  · rename_i hk
    cases hj : k - xs.length with
    | zero => simp; exact ⟨h0, h1⟩
    | succ j => simp; omega

theorem val_nonneg {n : Int} : ∀ {xs : List Int}, Upto n xs → 0 ≤ val xs
  | [], _ => by simp [val]
  | x :: r, h => by
    have h0 := h 0
    have hr := val_nonneg h.tail
    simp at h0
    simp only [val]; omega
theorem val_lt : ∀ {xs : List Int}, Upto 1 xs → val xs < 2 ^ xs.length
  | [], _ => by simp [val]
  | x :: r, h => by
    have h0 := h 0
    have hr := val_lt h.tail
    simp at h0
    simp only [val, List.length_cons, Int.pow_succ]
    generalize (2 : Int) ^ r.length = p at *
    omega
theorem val_append : ∀ (xs ys : List Int), val (xs ++ ys) = val xs + 2 ^ xs.length * val ys
  | [], ys => by simp [val]
  | x :: r, ys => by
    have := val_append r ys
    simp only [List.cons_append, val, List.length_cons, Int.pow_succ, this, Int.mul_add, Int.mul_comm _ 2, Int.mul_assoc]
    omega
theorem val_push (xs : List Int) (x : Int) : val (xs ++ [x]) = val xs + 2 ^ xs.length * x := by rw [val_append]; simp [val]
theorem val_set : ∀ (xs : List Int) (i : Nat) (x : Int), i < xs.length → val (xs.set i x) = val xs + 2 ^ i * (x - xs.getD i 0)
  | [], _, _, h => by simp at h
  | y :: r, 0, x, _ => by simp [val]; omega
  | y :: r, i + 1, x, h => by
    have := val_set r i x (by simpa using h)
    simp only [List.set_cons_succ, val, this, List.getD_cons_succ, Int.pow_succ, Int.mul_add, Int.mul_comm _ 2, Int.mul_assoc]
    omega
theorem val_take_succ (xs : List Int) (k : Nat) (h : k < xs.length) : val (xs.take (k + 1)) = val (xs.take k) + 2 ^ k * xs.getD k 0 := by
  rw [List.take_add_one, List.getElem?_eq_getElem h, Option.toList_some, val_push]
  simp [List.getD_eq_getElem?_getD, List.getElem?_eq_getElem h, Nat.min_eq_left (Nat.le_of_lt h)]
theorem val_drop (xs : List Int) (k : Nat) (h : k < xs.length) : val (xs.drop k) = xs.getD k 0 + 2 * val (xs.drop (k + 1)) := by
  rw [List.drop_eq_getElem_cons h, val]
  simp [List.getD_eq_getElem?_getD, List.getElem?_eq_getElem h]
theorem val_split (xs : List Int) (k : Nat) (h : k ≤ xs.length) : val xs = val (xs.take k) + 2 ^ k * val (xs.drop k) := by
  have := val_append (xs.take k) (xs.drop k)
  rw [List.take_append_drop, List.length_take, Nat.min_eq_left h] at this
  exact this
theorem val_zero : ∀ (n : Nat), val (List.replicate n 0) = 0
  | 0 => rfl
  | n + 1 => by simp [List.replicate_succ, val, val_zero n]
theorem upto_zero (n : Nat) : Upto 0 (List.replicate n 0) := fun k => by
  simp only [List.getD_eq_getElem?_getD, List.getElem?_replicate]
  split <;> simp

end Go.Proofs.YtmennknknecgjaaDoor
