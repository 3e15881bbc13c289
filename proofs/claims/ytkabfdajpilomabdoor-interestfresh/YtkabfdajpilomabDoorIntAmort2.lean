/-
  Ours: what a plan's rows are, by whole numbers: each row's interest and part, and that they pay the loan off.
-/
import Derived.Test.YtkabfdajpilomabDoorIntAmort
namespace Go.Proofs.YtkabfdajpilomabDoor
open Go.RowKit IntM CalM

abbrev R3 := Int × Int × Int
/-- The balance behind so many rows. -/
def balF : List R3 → Int → Nat → Int
  | _, b, 0 => b
  | [], b, _ + 1 => b
  | x :: rs, b, j + 1 => balF rs (b - x.2.2) j

section
variable (kind P r : Int) (n : Nat) (pay : Int) (due : Nat → Option Int)
/-- Row by row. -/
def Chain : Nat → Int → List R3 → Prop
  | _, b, [] => b = 0
  | k, b, x :: rs => b ≠ 0 ∧ k < n ∧ Inv kind P r n pay k b ∧ x.2.1 = mon b r ∧ x.2.2 = partI kind P n pay (k + 1) b (mon b r) ∧ due (k + 1) = some x.1 ∧ Chain (k + 1) (b - x.2.2) rs
end

section
variable {kind P r : Int} {n : Nat} {pay : Int} {due : Nat → Option Int}

theorem chain_of (n0 : 1 ≤ n) (hk : kind = 0 ∨ kind = 1 ∨ kind = 2) (r0 : 0 ≤ r) (ns : ∀ k b, Inv kind P r n pay k b → b ≠ 0 → k < n → ¬ (mon b r = 0 ∧ partI kind P n pay (k + 1) b (mon b r) = 0)) (hd : ∀ k, 1 ≤ k → k ≤ n → ∃ d, due k = some d) :
    ∀ (m k : Nat) (b : Int), k + m = n → Inv kind P r n pay k b → ∃ rs, planF r (partI kind P n pay) due m k b = some rs ∧ Chain kind P r n pay due k b rs ∧ rs.length ≤ m
  | 0, k, b, hkm, hi => ⟨[], rfl, by obtain rfl : k = n := by omega
                                     exact inv_end n0 hk hi, by simp⟩
  | m + 1, k, b, hkm, hi => by
    by_cases hb : b = 0
    · subst hb
      exact ⟨[], planF_zero _ _, rfl, by simp⟩
    · obtain ⟨p0, p1, hin, _⟩ := inv_step n0 hk r0 hi hb (by omega)
      obtain ⟨d, hdd⟩ := hd (k + 1) (by omega) (by omega)
      obtain ⟨rs, h1, h2, h3⟩ := chain_of n0 hk r0 ns hd m (k + 1) _ (by omega) hin
      refine ⟨(d, mon b r, partI kind P n pay (k + 1) b (mon b r)) :: rs, ?_, ⟨hb, by omega, hi, rfl, rfl, hdd, h2⟩, by simp; omega⟩
      rw [planF_row hb (ns k b hi hb (by omega)) hdd, h1]
      rfl

theorem chain_at : ∀ (rs : List R3) (k : Nat) (b : Int), Chain kind P r n pay due k b rs → ∀ j, j < rs.length →
    balF rs b j ≠ 0 ∧ k + j < n ∧ Inv kind P r n pay (k + j) (balF rs b j) ∧ (rs.getD j (0, 0, 0)).2.1 = mon (balF rs b j) r ∧ (rs.getD j (0, 0, 0)).2.2 = partI kind P n pay (k + j + 1) (balF rs b j) (mon (balF rs b j) r) ∧ due (k + j + 1) = some (rs.getD j (0, 0, 0)).1 ∧ balF rs b (j + 1) = balF rs b j - (rs.getD j (0, 0, 0)).2.2
  | [], _, _, _, _, hj => by simp at hj
  | x :: rs, k, b, h, 0, _ => by
    obtain ⟨h1, h2, h3, h4, h5, h6, _⟩ := h
    exact ⟨h1, h2, h3, h4, h5, h6, by simp [balF]⟩
  | x :: rs, k, b, h, j + 1, hj => by
    have := chain_at rs (k + 1) (b - x.2.2) h.2.2.2.2.2.2 j (by simpa using hj)
    rw [show k + 1 + j = k + (j + 1) by omega] at this
    simpa [balF] using this
theorem chain_fin : ∀ (rs : List R3) (k : Nat) (b : Int), Chain kind P r n pay due k b rs → balF rs b rs.length = 0
  | [], _, _, h => h
  | x :: rs, k, b, h => chain_fin rs (k + 1) (b - x.2.2) h.2.2.2.2.2.2

/-- A balloon whose month earns nothing: its last row alone. -/
theorem balloon_one (n0 : 1 ≤ n) (P0 : P ≠ 0) (hm : mon P r = 0) (d : Int) (hd : due n = some d) : ∀ (m k : Nat), k + m = n → k < n → planF r (partI 2 P n pay) due m k P = some [(d, 0, P)]
  | 0, k, h1, h2 => by omega
  | m + 1, k, h1, h2 => by
    by_cases h : k + 1 < n
    · have e : partI 2 P n pay (k + 1) P (mon P r) = 0 := by simp [partI, h]
      rw [planF_skip P0 ⟨hm, e⟩]
      exact balloon_one n0 P0 hm d hd m (k + 1) (by omega) h
    · have e : partI 2 P n pay (k + 1) P (mon P r) = P := by simp [partI, h]
      have hkn : k + 1 = n := by omega
      rw [planF_row (d := d) P0 (fun g => P0 (e.symm.trans g.2)) (by rw [hkn]; exact hd), e, Int.sub_self, planF_zero, hm]
      rfl
end

/-- What the statement asks of the rows. -/
structure Am (kind P r : Int) (n : Nat) (pay : Int) (due : Nat → Option Int) (rs : List R3) (bal : Nat → Int) (tn : Nat → Nat) : Prop where
  start : bal 0 = P
  len0 : 1 ≤ rs.length
  len1 : rs.length ≤ n
  fin : bal rs.length = 0
  row : ∀ j, j < rs.length → 0 < bal j ∧ bal j ≤ P ∧ (rs.getD j (0, 0, 0)).2.1 = mon (bal j) r ∧ 0 ≤ (rs.getD j (0, 0, 0)).2.2 ∧ (rs.getD j (0, 0, 0)).2.2 ≤ bal j ∧ bal (j + 1) = bal j - (rs.getD j (0, 0, 0)).2.2 ∧ due (tn j) = some (rs.getD j (0, 0, 0)).1 ∧ 1 ≤ tn j ∧ tn j ≤ n
  turns : ∀ j, j + 1 < rs.length → tn (j + 1) = tn j + 1
  k0 : kind = 0 → ∀ j, j < rs.length → 1 ≤ (rs.getD j (0, 0, 0)).2.2 ∧ (j + 1 = rs.length → (rs.getD j (0, 0, 0)).2.1 + (rs.getD j (0, 0, 0)).2.2 ≤ pay) ∧ (j + 1 ≠ rs.length → (rs.getD j (0, 0, 0)).2.1 + (rs.getD j (0, 0, 0)).2.2 = pay)
  k1 : kind = 1 → ∀ j, j < rs.length → 1 ≤ (rs.getD j (0, 0, 0)).2.2 ∧ (rs.getD j (0, 0, 0)).2.2 ≤ (rs.getD 0 (0, 0, 0)).2.2 ∧ (rs.getD 0 (0, 0, 0)).2.2 - 1 ≤ (rs.getD j (0, 0, 0)).2.2 ∧ (j = 0 ∨ (rs.getD j (0, 0, 0)).2.2 ≤ (rs.getD (j - 1) (0, 0, 0)).2.2)
  k2 : kind = 2 → ∀ j, j < rs.length → j + 1 = rs.length ∨ (rs.getD j (0, 0, 0)).2.2 = 0
  one : kind = 2 → mon P r = 0 → rs.length = 1

/-- The month of row j. -/
def turnN (kind P r : Int) (n j : Nat) : Nat := if kind = 2 ∧ mon P r = 0 then n else j + 1

theorem am_chain {kind P r : Int} {n : Nat} {pay : Int} {due : Nat → Option Int} {rs : List R3} (n0 : 1 ≤ n) (P0 : 1 ≤ P) (r0 : 0 ≤ r) (hk : kind = 0 ∨ kind = 1 ∨ kind = 2) (hc : Chain kind P r n pay due 0 P rs) (hl : rs.length ≤ n) (hn : ¬ (kind = 2 ∧ mon P r = 0)) :
    Am kind P r n pay due rs (balF rs P) (turnN kind P r n) := by
  have tn : ∀ j, turnN kind P r n j = j + 1 := fun j => by unfold turnN; rw [if_neg hn]
  have at' := chain_at rs 0 P hc
  have fin := chain_fin rs 0 P hc
  have inv : ∀ j, j < rs.length → 0 < balF rs P j ∧ balF rs P j ≤ P ∧ 0 ≤ (rs.getD j (0, 0, 0)).2.2 ∧ (rs.getD j (0, 0, 0)).2.2 ≤ balF rs P j ∧ (kind ≠ 2 → 1 ≤ (rs.getD j (0, 0, 0)).2.2) := fun j hj => by
    obtain ⟨h1, h2, h3, h4, h5, h6, h7⟩ := at' j hj
    rw [Nat.zero_add] at h2 h3 h5
    obtain ⟨p0, p1, _, p3⟩ := inv_step n0 hk r0 h3 h1 h2
    rw [← h5] at p0 p1 p3
    have := h3.1
    exact ⟨by omega, h3.2.1, p0, p1, p3⟩
  have last : ∀ j, j < rs.length → (balF rs P (j + 1) = 0 ↔ j + 1 = rs.length) := fun j hj => by
    constructor
    · intro h0
      refine Classical.byContradiction fun hne => ?_
      exact (at' (j + 1) (by omega)).1 h0
    · intro e; rw [e]; exact fin
  refine ⟨?_, ?_, hl, fin, ?_, ?_, ?_, ?_, ?_, ?_⟩
  · cases rs <;> rfl
  · cases rs with
    | nil => exact absurd (show P = 0 from hc) (by omega)
    | cons x rs => simp
  · intro j hj
    obtain ⟨h1, h2, h3, h4, h5, h6, h7⟩ := at' j hj
    obtain ⟨i1, i2, i3, i4, i5⟩ := inv j hj
    rw [Nat.zero_add] at h6 h2
    refine ⟨i1, i2, h4, i3, i4, h7, ?_, ?_, ?_⟩ <;> rw [tn] <;> first | exact h6 | omega
  · intro j _; rw [tn, tn]
  · intro e j hj
    obtain ⟨h1, h2, h3, h4, h5, h6, h7⟩ := at' j hj
    obtain ⟨i1, i2, i3, i4, i5⟩ := inv j hj
    have lj := last j hj
    have hp : (rs.getD j (0, 0, 0)).2.2 = min (pay - mon (balF rs P j) r) (balF rs P j) := by rw [h5]; unfold partI; rw [if_pos e]
    refine ⟨i5 (by omega), fun _ => by omega, fun hne => ?_⟩
    have : balF rs P (j + 1) ≠ 0 := fun h0 => hne (lj.1 h0)
    omega
  · intro e j hj
    have pj : ∀ i, i < rs.length → (rs.getD i (0, 0, 0)).2.2 = if ((i + 1 : Nat) : Int) ≤ P % (n : Int) then P / (n : Int) + 1 else P / (n : Int) := fun i hi => by
      obtain ⟨_, _, _, _, h5, _⟩ := at' i hi
      rw [h5, Nat.zero_add]; unfold partI; rw [if_neg (by omega), if_pos e]
    obtain ⟨i1, i2, i3, i4, i5⟩ := inv j hj
    have q0 := pj 0 (by omega)
    have qj := pj j hj
    refine ⟨i5 (by omega), ?_, ?_, ?_⟩
    · rw [q0, qj]; split <;> split <;> omega
    · rw [q0, qj]; split <;> split <;> omega
    · by_cases h0 : j = 0
      · exact .inl h0
      · right
        rw [qj, pj (j - 1) (by omega)]
        split <;> split <;> omega
  · intro e j hj
    obtain ⟨h1, h2, h3, h4, h5, h6, h7⟩ := at' j hj
    have lj := last j hj
    by_cases hl : j + 1 = rs.length
    · exact .inl hl
    · right
      have hne : balF rs P (j + 1) ≠ 0 := fun h0 => hl (lj.1 h0)
      rw [h5, Nat.zero_add]
      unfold partI
      rw [if_neg (by omega), if_neg (by omega)]
      by_cases hjn : j + 1 < n
      · rw [if_pos hjn]
      · exfalso
        apply hne
        rw [h7, h5, Nat.zero_add]
        unfold partI
        rw [if_neg (by omega), if_neg (by omega), if_neg hjn]
        omega
  · intro e e'; exact absurd ⟨e, e'⟩ hn

/-- The plan of valid terms with few holidays. -/
theorem amort {kind P r n start rule : Int} {xs : List Int} (hv : validB kind P r n start rule = true) (hx : xs.length ≤ 4) (hs : start ≤ 3640000) :
    ∃ rs, planO kind P r n start rule xs = some rs ∧ Am kind P r n.toNat (payN P r n.toNat) (dueT start rule xs) rs (balF rs P) (turnN kind P r n.toNat) := by
  obtain ⟨s1, hk, hP, hr, hn, hu, hp⟩ := valid_parts hv
  unfold planO
  rw [if_pos ⟨hv, by omega⟩]
  have n0 : 1 ≤ n.toNat := by omega
  have n1 : n.toNat ≤ 120 := by omega
  generalize n.toNat = m at *
  have hd : ∀ k, 1 ≤ k → k ≤ m → ∃ d, dueT start rule xs k = some d := fun k k1 k2 => by
    obtain ⟨d, h, _⟩ := due_facts start rule xs hx hu.1 hu.2 s1.1 hs k k1 (by omega)
    exact ⟨d, h⟩
  by_cases hb : kind = 2 ∧ mon P r = 0
  · obtain ⟨rfl, hm⟩ := hb
    obtain ⟨d, hdd⟩ := hd m n0 (Nat.le_refl _)
    refine ⟨[(d, 0, P)], balloon_one n0 (by omega) hm d hdd m 0 (by omega) (by omega), ?_⟩
    have tn : ∀ j, turnN 2 P r m j = m := fun j => by unfold turnN; rw [if_pos ⟨rfl, hm⟩]
    refine ⟨rfl, by simp, by simpa using n0, by simp [balF], ?_, ?_, (fun e => by cases e), (fun e => by cases e), ?_, fun _ _ => rfl⟩
    · intro j hj
      obtain rfl : j = 0 := by simpa using hj
      rw [tn]
      exact ⟨by simp [balF]; omega, by simp [balF], by simp [balF, hm], by simp; omega, by simp [balF], by simp [balF], hdd, n0, Nat.le_refl _⟩
    · intro j hj; simp at hj
    · intro _ j hj; left; simpa using hj
  · have hi : Inv kind P r m (payN P r m) 0 P := inv_start hP.1 n0 (fun _ => lv_pays hp)
    obtain ⟨rs, h1, h2, h3⟩ := chain_of n0 hk hr.1 (due := dueT start rule xs) (fun k b hi hb0 hkn => by
      obtain ⟨_, _, _, hne⟩ := inv_step n0 hk hr.1 hi hb0 hkn
      rintro ⟨g1, g2⟩
      by_cases h2 : kind = 2
      · rcases hi.2.2.2.2 h2 with h | h
        · exact hb0 h
        · rw [h.1] at g1; exact hb ⟨h2, g1⟩
      · have := hne h2; omega) hd m 0 P (by omega) hi
    exact ⟨rs, h1, am_chain n0 hP.1 hr.1 hk h2 h3 hb⟩
end Go.Proofs.YtkabfdajpilomabDoor
