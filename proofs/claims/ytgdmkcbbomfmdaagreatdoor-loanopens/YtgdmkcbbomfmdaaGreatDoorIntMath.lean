/-
  Ours: interest by whole numbers: a month's interest, payments that pay off, the least of them. No Go in sight.
-/
namespace Go.Proofs.YtgdmkcbbomfmdaaGreatDoor.IntM

/-- A fraction over 120000 to the nearest whole number, a half to the even one. -/
def rd (n : Int) : Int := if 120000 < 2 * (n % 120000) ∨ (2 * (n % 120000) = 120000 ∧ n / 120000 % 2 = 1) then n / 120000 + 1 else n / 120000
/-- A month's interest. -/
def mon (b r : Int) : Int := rd (b * r)

theorem rd_mono {n m : Int} (h : n ≤ m) : rd n ≤ rd m := by
  unfold rd; split <;> split <;> omega
theorem rd_zero : rd 0 = 0 := by unfold rd; split <;> omega
theorem mon_nonneg {b r : Int} (b0 : 0 ≤ b) (r0 : 0 ≤ r) : 0 ≤ mon b r := by
  have := rd_mono (Int.mul_nonneg b0 r0); rw [rd_zero] at this; exact this
theorem mon_le {b r : Int} (b0 : 0 ≤ b) (r1 : r ≤ 100000) : mon b r ≤ b := by
  have h : b * r ≤ b * 100000 := Int.mul_le_mul_of_nonneg_left r1 b0
  have h2 := rd_mono h
  unfold mon
  have h3 : rd (b * 100000) ≤ b := by unfold rd; split <;> omega
  omega
theorem mon_mono {b c r : Int} (r0 : 0 ≤ r) (h : b ≤ c) : mon b r ≤ mon c r := rd_mono (Int.mul_le_mul_of_nonneg_right h r0)
theorem mon_zero (r : Int) : mon 0 r = 0 := by unfold mon; rw [Int.zero_mul, rd_zero]
/-- Twice the way to the fraction is at most the whole, and just the whole only at an even number. -/
theorem rd_near (n : Int) : let off := 2 * (rd n * 120000 - n); (off < 120000 ∧ -120000 < off) ∨ ((off = 120000 ∨ off = -120000) ∧ rd n % 2 = 0) := by
  simp only []
  unfold rd; split <;> omega

/-- A payment brings a balance to 0 in at most n months. -/
def pays (r p : Int) : Nat → Int → Bool
  | 0, _ => false
  | n + 1, b => if p - mon b r ≤ 0 then false else if b ≤ p - mon b r then true else pays r p n (b - (p - mon b r))

theorem pays_zero (r p b : Int) : pays r p 0 b = false := rfl
theorem pays_never {r p b : Int} (n : Nat) (h : p - mon b r ≤ 0) : pays r p (n + 1) b = false := by rw [pays, if_pos h]
theorem pays_done {r p b : Int} (n : Nat) (h : ¬ p - mon b r ≤ 0) (h' : b ≤ p - mon b r) : pays r p (n + 1) b = true := by rw [pays, if_neg h, if_pos h']
theorem pays_on {r p b : Int} (n : Nat) (h : ¬ p - mon b r ≤ 0) (h' : ¬ b ≤ p - mon b r) : pays r p (n + 1) b = pays r p n (b - (p - mon b r)) := by rw [pays, if_neg h, if_neg h']

/-- A greater payment and a smaller balance: still paid off. -/
theorem pays_mono {r : Int} (r0 : 0 ≤ r) : ∀ (n : Nat) (p q b c : Int), p ≤ q → c ≤ b → pays r p n b = true → pays r q n c = true
  | 0, _, _, _, _, _, _, h => by rw [pays_zero] at h; cases h
  | n + 1, p, q, b, c, hp, hb, h => by
    have hm := mon_mono r0 hb
    by_cases h1 : p - mon b r ≤ 0
    · rw [pays_never n h1] at h; cases h
    · by_cases h2 : c ≤ q - mon c r
      · exact pays_done n (by omega) h2
      · have h3 : ¬ b ≤ p - mon b r := by omega
        rw [pays_on n h1 h3] at h
        rw [pays_on n (by omega) h2]
        exact pays_mono r0 n p q _ _ hp (by omega) h
/-- A month more: still paid off. -/
theorem pays_longer {r p : Int} : ∀ (n : Nat) (b : Int), pays r p n b = true → pays r p (n + 1) b = true
  | 0, _, h => by rw [pays_zero] at h; cases h
  | n + 1, b, h => by
    by_cases h1 : p - mon b r ≤ 0
    · rw [pays_never n h1] at h; cases h
    · by_cases h2 : b ≤ p - mon b r
      · exact pays_done _ h1 h2
      · rw [pays_on n h1 h2] at h
        rw [pays_on (n + 1) h1 h2]
        exact pays_longer n _ h
theorem pays_pos {r p b : Int} (n : Nat) (b0 : 0 ≤ b) (r0 : 0 ≤ r) (h : pays r p n b = true) : 1 ≤ p := by
  cases n with
  | zero => rw [pays_zero] at h; cases h
  | succ n =>
    by_cases h1 : p - mon b r ≤ 0
    · rw [pays_never n h1] at h; cases h
    · have := mon_nonneg b0 r0; omega
/-- At once: principal and its interest. -/
theorem pays_once {r b : Int} (n : Nat) (b0 : 1 ≤ b) : pays r (b + mon b r) (n + 1) b = true := pays_done n (by omega) (by omega)

/-- The least payment that pays off. -/
def Lv (P r : Int) (n : Nat) (p : Int) : Prop := 1 ≤ p ∧ p ≤ 9223372036854775807 ∧ ∀ q, pays r q n P = decide (p ≤ q)

theorem lv_ex {P r : Int} {n : Nat} (P0 : 0 ≤ P) (r0 : 0 ≤ r) (h : pays r 9223372036854775807 n P = true) : ∃ p, Lv P r n p := by
  have key : ∀ (k : Nat) (m : Int), m ≤ 9223372036854775807 → m ≤ k → pays r m n P = true → ∃ p, Lv P r n p := by
    intro k
    induction k with
    | zero => intro m _ hk hm; exact absurd (pays_pos n P0 r0 hm) (by omega)
    | succ k ih =>
      intro m h1 h2 hm
      cases hq : pays r (m - 1) n P with
      | true => exact ih (m - 1) (by omega) (by omega) hq
      | false =>
        refine ⟨m, pays_pos n P0 r0 hm, h1, fun q => ?_⟩
        by_cases hle : m ≤ q
        · rw [pays_mono r0 n m q P P hle (Int.le_refl _) hm, decide_eq_true hle]
        · rw [decide_eq_false hle]
          cases hx : pays r q n P with
          | false => rfl
          | true => rw [pays_mono r0 n q (m - 1) P P (by omega) (Int.le_refl _) hx] at hq; cases hq
  exact key 9223372036854775807 _ (Int.le_refl _) (by omega) h
theorem lv_one {P r : Int} {n : Nat} {p q : Int} (h : Lv P r n p) (h' : Lv P r n q) : p = q := by
  have a := h.2.2 p; rw [h'.2.2 p, decide_eq_true (Int.le_refl p), decide_eq_true_iff] at a
  have b := h.2.2 q; rw [h'.2.2 q, decide_eq_true (Int.le_refl q)] at b
  have b := of_decide_eq_true b.symm; omega
theorem lv_pays {P r : Int} {n : Nat} {p : Int} (h : Lv P r n p) : pays r p n P = true := by rw [h.2.2, decide_eq_true (Int.le_refl _)]
/-- Where there is a sensible principal there is one. -/
theorem lv_lend {P r : Int} (n : Nat) (P0 : 1 ≤ P) (P1 : P ≤ 10000000000000) (r0 : 0 ≤ r) (r1 : r ≤ 100000) : ∃ p, Lv P r (n + 1) p ∧ p ≤ P + mon P r := by
  have h := pays_once (r := r) n P0
  have hm := mon_le (r := r) (by omega : 0 ≤ P) r1
  obtain ⟨p, hp⟩ := lv_ex (by omega) r0 (pays_mono r0 (n + 1) (P + mon P r) 9223372036854775807 P P (by omega) (Int.le_refl _) h)
  refine ⟨p, hp, ?_⟩
  rw [hp.2.2, decide_eq_true_iff] at h
  exact h
theorem lv_longer {P r : Int} {n : Nat} {p q : Int} (h : Lv P r n p) (h' : Lv P r (n + 1) q) : q ≤ p := by
  have := pays_longer _ _ (lv_pays h); rw [h'.2.2] at this; exact of_decide_eq_true this
theorem lv_greater {P Q r : Int} {n : Nat} {p q : Int} (r0 : 0 ≤ r) (hPQ : P ≤ Q) (h : Lv P r n p) (h' : Lv Q r n q) : p ≤ q := by
  have := pays_mono r0 n q q Q P (Int.le_refl _) hPQ (lv_pays h'); rw [h.2.2] at this; exact of_decide_eq_true this

/-- The reference's month: the balance in whole 120000s and the rest. -/
theorem mon_parts (b r : Int) : b * r = (b / 120000 * r) * 120000 + b % 120000 * r := by
  have h : b = b / 120000 * 120000 + b % 120000 := by omega
  have e : b * r = (b / 120000 * 120000 + b % 120000) * r := by rw [← h]
  rw [e, Int.add_mul]
  congr 1
  rw [Int.mul_assoc, Int.mul_comm 120000 r, ← Int.mul_assoc]

/-- A span's count of DayDen-ths. -/
def cnt (P r d c : Int) : Int := P * (r * d) + c
theorem cnt_floor (P r d c : Int) (c0 : 0 ≤ c) (c1 : c < 3650000) (h : P * (r * d) % 3650000 + c < 3650000) :
    cnt P r d c / 3650000 = P * (r * d) / 3650000 ∧ cnt P r d c % 3650000 = P * (r * d) % 3650000 + c := by
  unfold cnt; omega
theorem cnt_over (P r d c : Int) (c0 : 0 ≤ c) (c1 : c < 3650000) (h : ¬ P * (r * d) % 3650000 + c < 3650000) :
    cnt P r d c / 3650000 = P * (r * d) / 3650000 + 1 ∧ cnt P r d c % 3650000 = P * (r * d) % 3650000 + c - 3650000 := by
  unfold cnt; omega
theorem cnt_parts (P r d c : Int) : cnt P r d c = (P / 3650000 * r * d) * 3650000 + (P % 3650000 * r * d + c) := by
  unfold cnt
  have h : P = P / 3650000 * 3650000 + P % 3650000 := by omega
  have e : P * (r * d) = (P / 3650000 * 3650000 + P % 3650000) * (r * d) := by rw [← h]
  rw [e, Int.add_mul, Int.mul_assoc (P / 3650000) 3650000, Int.mul_comm 3650000 (r * d), ← Int.mul_assoc (P / 3650000), ← Int.mul_assoc (P / 3650000) r d, ← Int.mul_assoc (P % 3650000) r d]
  omega
theorem cnt_day (P r d c : Int) : cnt P r (d + 1) c = cnt P r d c + P * r := by
  unfold cnt; rw [Int.mul_add, Int.mul_one, Int.mul_add]; omega
end Go.Proofs.YtgdmkcbbomfmdaaGreatDoor.IntM
