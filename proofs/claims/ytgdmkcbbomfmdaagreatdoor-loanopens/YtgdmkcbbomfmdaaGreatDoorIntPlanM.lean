/-
  Ours: plans by whole numbers: the rows of a plan, and what is kept from month to month. No Go in sight.
-/
/-
  Ours: interest by whole numbers: a month's interest, payments that pay off, the least of them. No Go in sight.
-/
namespace Go.Proofs.YtgdmkcbbomfmdaaGreatDoor.IntM

/-- A fraction over 120000 to the nearest whole number, a half to the even one. -/
def rd (n : Int) : Int := if 120000 < 2 * (n % 120000) ∨ (2 * (n % 120000) = 120000 ∧ n / 120000 % 2 = 1) then n / 120000 + 1 else n / 120000
/-- A month's interest. -/
def mon (b r : Int) : Int := rd (b * r)

theorem rd_mono {n m : Int} (h : n ≤ m) : rd n ≤ rd m := by
  unfold rd; split <;> split <;> omega
theorem rd_zero : rd 0 = 0 := by unfold rd; split <;> omega
theorem mon_nonneg {b r : Int} (b0 : 0 ≤ b) (r0 : 0 ≤ r) : 0 ≤ mon b r := by
  have := rd_mono (Int.mul_nonneg b0 r0); rw [rd_zero] at this; exact this
theorem mon_le {b r : Int} (b0 : 0 ≤ b) (r1 : r ≤ 100000) : mon b r ≤ b := by
  have h : b * r ≤ b * 100000 := Int.mul_le_mul_of_nonneg_left r1 b0
  have h2 := rd_mono h
  unfold mon
  have h3 : rd (b * 100000) ≤ b := by unfold rd; split <;> omega
  omega
theorem mon_mono {b c r : Int} (r0 : 0 ≤ r) (h : b ≤ c) : mon b r ≤ mon c r := rd_mono (Int.mul_le_mul_of_nonneg_right h r0)
theorem mon_zero (r : Int) : mon 0 r = 0 := by unfold mon; rw [Int.zero_mul, rd_zero]
/-- Twice the way to the fraction is at most the whole, and just the whole only at an even number. -/
theorem rd_near (n : Int) : let off := 2 * (rd n * 120000 - n); (off < 120000 ∧ -120000 < off) ∨ ((off = 120000 ∨ off = -120000) ∧ rd n % 2 = 0) := by
  simp only []
  unfold rd; split <;> omega

/-- A payment brings a balance to 0 in at most n months. -/
def pays (r p : Int) : Nat → Int → Bool
  | 0, _ => false
  | n + 1, b => if p - mon b r ≤ 0 then false else if b ≤ p - mon b r then true else pays r p n (b - (p - mon b r))

theorem pays_zero (r p b : Int) : pays r p 0 b = false := rfl
theorem pays_never {r p b : Int} (n : Nat) (h : p - mon b r ≤ 0) : pays r p (n + 1) b = false := by rw [pays, if_pos h]
theorem pays_done {r p b : Int} (n : Nat) (h : ¬ p - mon b r ≤ 0) (h' : b ≤ p - mon b r) : pays r p (n + 1) b = true := by rw [pays, if_neg h, if_pos h']
theorem pays_on {r p b : Int} (n : Nat) (h : ¬ p - mon b r ≤ 0) (h' : ¬ b ≤ p - mon b r) : pays r p (n + 1) b = pays r p n (b - (p - mon b r)) := by rw [pays, if_neg h, if_neg h']

/-- A greater payment and a smaller balance: still paid off. -/
theorem pays_mono {r : Int} (r0 : 0 ≤ r) : ∀ (n : Nat) (p q b c : Int), p ≤ q → c ≤ b → pays r p n b = true → pays r q n c = true
  | 0, _, _, _, _, _, _, h => by rw [pays_zero] at h; cases h
  | n + 1, p, q, b, c, hp, hb, h => by
    have hm := mon_mono r0 hb
    by_cases h1 : p - mon b r ≤ 0
    · rw [pays_never n h1] at h; cases h
    · by_cases h2 : c ≤ q - mon c r
      · exact pays_done n (by omega) h2
      · have h3 : ¬ b ≤ p - mon b r := by omega
        rw [pays_on n h1 h3] at h
        rw [pays_on n (by omega) h2]
        exact pays_mono r0 n p q _ _ hp (by omega) h
/-- A month more: still paid off. -/
theorem pays_longer {r p : Int} : ∀ (n : Nat) (b : Int), pays r p n b = true → pays r p (n + 1) b = true
  | 0, _, h => by rw [pays_zero] at h; cases h
  | n + 1, b, h => by
    by_cases h1 : p - mon b r ≤ 0
    · rw [pays_never n h1] at h; cases h
    · by_cases h2 : b ≤ p - mon b r
      · exact pays_done _ h1 h2
      · rw [pays_on n h1 h2] at h
        rw [pays_on (n + 1) h1 h2]
        exact pays_longer n _ h
theorem pays_pos {r p b : Int} (n : Nat) (b0 : 0 ≤ b) (r0 : 0 ≤ r) (h : pays r p n b = true) : 1 ≤ p := by
  cases n with
  | zero => rw [pays_zero] at h; cases h
  | succ n =>
    by_cases h1 : p - mon b r ≤ 0
    · rw [pays_never n h1] at h; cases h
    · have := mon_nonneg b0 r0; omega
/-- At once: principal and its interest. -/
theorem pays_once {r b : Int} (n : Nat) (b0 : 1 ≤ b) : pays r (b + mon b r) (n + 1) b = true := pays_done n (by omega) (by omega)

/-- The least payment that pays off. -/
def Lv (P r : Int) (n : Nat) (p : Int) : Prop := 1 ≤ p ∧ p ≤ 9223372036854775807 ∧ ∀ q, pays r q n P = decide (p ≤ q)

theorem lv_ex {P r : Int} {n : Nat} (P0 : 0 ≤ P) (r0 : 0 ≤ r) (h : pays r 9223372036854775807 n P = true) : ∃ p, Lv P r n p := by
  have key : ∀ (k : Nat) (m : Int), m ≤ 9223372036854775807 → m ≤ k → pays r m n P = true → ∃ p, Lv P r n p := by
    intro k
    induction k with
    | zero => intro m _ hk hm; exact absurd (pays_pos n P0 r0 hm) (by omega)
    | succ k ih =>
      intro m h1 h2 hm
      cases hq : pays r (m - 1) n P with
      | true => exact ih (m - 1) (by omega) (by omega) hq
      | false =>
        refine ⟨m, pays_pos n P0 r0 hm, h1, fun q => ?_⟩
        by_cases hle : m ≤ q
        · rw [pays_mono r0 n m q P P hle (Int.le_refl _) hm, decide_eq_true hle]
        · rw [decide_eq_false hle]
          cases hx : pays r q n P with
          | false => rfl
          | true => rw [pays_mono r0 n q (m - 1) P P (by omega) (Int.le_refl _) hx] at hq; cases hq
  exact key 9223372036854775807 _ (Int.le_refl _) (by omega) h
theorem lv_one {P r : Int} {n : Nat} {p q : Int} (h : Lv P r n p) (h' : Lv P r n q) : p = q := by
  have a := h.2.2 p; rw [h'.2.2 p, decide_eq_true (Int.le_refl p), decide_eq_true_iff] at a
  have b := h.2.2 q; rw [h'.2.2 q, decide_eq_true (Int.le_refl q)] at b
  have b := of_decide_eq_true b.symm; omega
theorem lv_pays {P r : Int} {n : Nat} {p : Int} (h : Lv P r n p) : pays r p n P = true := by rw [h.2.2, decide_eq_true (Int.le_refl _)]
/-- Where there is a sensible principal there is one. -/
theorem lv_lend {P r : Int} (n : Nat) (P0 : 1 ≤ P) (P1 : P ≤ 10000000000000) (r0 : 0 ≤ r) (r1 : r ≤ 100000) : ∃ p, Lv P r (n + 1) p ∧ p ≤ P + mon P r := by
  have h := pays_once (r := r) n P0
  have hm := mon_le (r := r) (by omega : 0 ≤ P) r1
  obtain ⟨p, hp⟩ := lv_ex (by omega) r0 (pays_mono r0 (n + 1) (P + mon P r) 9223372036854775807 P P (by omega) (Int.le_refl _) h)
  refine ⟨p, hp, ?_⟩
  rw [hp.2.2, decide_eq_true_iff] at h
  exact h
theorem lv_longer {P r : Int} {n : Nat} {p q : Int} (h : Lv P r n p) (h' : Lv P r (n + 1) q) : q ≤ p := by
  have := pays_longer _ _ (lv_pays h); rw [h'.2.2] at this; exact of_decide_eq_true this
theorem lv_greater {P Q r : Int} {n : Nat} {p q : Int} (r0 : 0 ≤ r) (hPQ : P ≤ Q) (h : Lv P r n p) (h' : Lv Q r n q) : p ≤ q := by
  have := pays_mono r0 n q q Q P (Int.le_refl _) hPQ (lv_pays h'); rw [h.2.2] at this; exact of_decide_eq_true this

/-- The reference's month: the balance in whole 120000s and the rest. -/
theorem mon_parts (b r : Int) : b * r = (b / 120000 * r) * 120000 + b % 120000 * r := by
  have h : b = b / 120000 * 120000 + b % 120000 := by omega
  have e : b * r = (b / 120000 * 120000 + b % 120000) * r := by rw [← h]
  rw [e, Int.add_mul]
  congr 1
  rw [Int.mul_assoc, Int.mul_comm 120000 r, ← Int.mul_assoc]

/-- A span's count of DayDen-ths. -/
def cnt (P r d c : Int) : Int := P * (r * d) + c
theorem cnt_floor (P r d c : Int) (c0 : 0 ≤ c) (c1 : c < 3650000) (h : P * (r * d) % 3650000 + c < 3650000) :
    cnt P r d c / 3650000 = P * (r * d) / 3650000 ∧ cnt P r d c % 3650000 = P * (r * d) % 3650000 + c := by
  unfold cnt; omega
theorem cnt_over (P r d c : Int) (c0 : 0 ≤ c) (c1 : c < 3650000) (h : ¬ P * (r * d) % 3650000 + c < 3650000) :
    cnt P r d c / 3650000 = P * (r * d) / 3650000 + 1 ∧ cnt P r d c % 3650000 = P * (r * d) % 3650000 + c - 3650000 := by
  unfold cnt; omega
theorem cnt_parts (P r d c : Int) : cnt P r d c = (P / 3650000 * r * d) * 3650000 + (P % 3650000 * r * d + c) := by
  unfold cnt
  have h : P = P / 3650000 * 3650000 + P % 3650000 := by omega
  have e : P * (r * d) = (P / 3650000 * 3650000 + P % 3650000) * (r * d) := by rw [← h]
  rw [e, Int.add_mul, Int.mul_assoc (P / 3650000) 3650000, Int.mul_comm 3650000 (r * d), ← Int.mul_assoc (P / 3650000), ← Int.mul_assoc (P / 3650000) r d, ← Int.mul_assoc (P % 3650000) r d]
  omega
theorem cnt_day (P r d c : Int) : cnt P r (d + 1) c = cnt P r d c + P * r := by
  unfold cnt; rw [Int.mul_add, Int.mul_one, Int.mul_add]; omega
end Go.Proofs.YtgdmkcbbomfmdaaGreatDoor.IntM

namespace Go.Proofs.YtgdmkcbbomfmdaaGreatDoor.IntM

/-- The principal part of a month. -/
def partI (kind P : Int) (n : Nat) (pay : Int) (k : Nat) (b i : Int) : Int :=
  if kind = 0 then min (pay - i) b else if kind = 1 then (if (k : Int) ≤ P % (n : Int) then P / (n : Int) + 1 else P / (n : Int)) else if k < n then 0 else b

/-- The rows from place k on, the balance being b; none where a due day is refused. -/
def planF (r : Int) (pf : Nat → Int → Int → Int) (due : Nat → Option Int) : Nat → Nat → Int → Option (List (Int × Int × Int))
  | 0, _, _ => some []
  | m + 1, k, b => if b = 0 then some [] else if mon b r = 0 ∧ pf (k + 1) b (mon b r) = 0 then planF r pf due m (k + 1) b else
    match due (k + 1) with
    | none => none
    | some d => (planF r pf due m (k + 1) (b - pf (k + 1) b (mon b r))).map ((d, mon b r, pf (k + 1) b (mon b r)) :: ·)

section
variable {r : Int} {pf : Nat → Int → Int → Int} {due : Nat → Option Int}
theorem planF_none (k : Nat) (b : Int) : planF r pf due 0 k b = some [] := rfl
theorem planF_zero (m k : Nat) : planF r pf due m k 0 = some [] := by cases m <;> simp [planF]
theorem planF_skip {m k : Nat} {b : Int} (hb : b ≠ 0) (h : mon b r = 0 ∧ pf (k + 1) b (mon b r) = 0) : planF r pf due (m + 1) k b = planF r pf due m (k + 1) b := by
  rw [planF, if_neg hb, if_pos h]
theorem planF_no {m k : Nat} {b : Int} (hb : b ≠ 0) (h : ¬ (mon b r = 0 ∧ pf (k + 1) b (mon b r) = 0)) (hd : due (k + 1) = none) : planF r pf due (m + 1) k b = none := by
  rw [planF, if_neg hb, if_neg h, hd]
theorem planF_row {m k : Nat} {b d : Int} (hb : b ≠ 0) (h : ¬ (mon b r = 0 ∧ pf (k + 1) b (mon b r) = 0)) (hd : due (k + 1) = some d) :
    planF r pf due (m + 1) k b = (planF r pf due m (k + 1) (b - pf (k + 1) b (mon b r))).map ((d, mon b r, pf (k + 1) b (mon b r)) :: ·) := by
  rw [planF, if_neg hb, if_neg h, hd]
end

/-- What is kept: the balance ahead of place k. -/
def Inv (kind P r : Int) (n : Nat) (pay : Int) (k : Nat) (b : Int) : Prop :=
  0 ≤ b ∧ b ≤ P ∧ (kind = 0 → b = 0 ∨ pays r pay (n - k) b = true) ∧ (kind = 1 → b = P - ((k : Int) * (P / (n : Int)) + min (k : Int) (P % (n : Int)))) ∧ (kind = 2 → b = 0 ∨ (b = P ∧ k < n))

theorem inv_start {kind P r pay : Int} {n : Nat} (P0 : 1 ≤ P) (n0 : 1 ≤ n) (hp : kind = 0 → pays r pay n P = true) : Inv kind P r n pay 0 P := by
  refine ⟨by omega, by omega, fun h => .inr ?_, fun _ => ?_, fun _ => .inr ⟨rfl, by omega⟩⟩
  · simpa using hp h
  · have : 0 ≤ P % (n : Int) := Int.emod_nonneg _ (by omega)
    have e : min ((0 : Nat) : Int) (P % (n : Int)) = 0 := by omega
    rw [e]; simp

theorem inv_end {kind P r pay b : Int} {n : Nat} (n0 : 1 ≤ n) (hk : kind = 0 ∨ kind = 1 ∨ kind = 2) (h : Inv kind P r n pay n b) : b = 0 := by
  obtain ⟨_, _, h0, h1, h2⟩ := h
  rcases hk with hk | hk | hk
  · rcases h0 hk with h | h
    · exact h
    · rw [Nat.sub_self, pays_zero] at h; cases h
  · have := h1 hk
    have e := Int.mul_ediv_add_emod P (n : Int)
    have l := Int.emod_lt_of_pos P (show (0 : Int) < (n : Int) by omega)
    generalize (n : Int) * (P / (n : Int)) = z at *
    omega
  · rcases h2 hk with h | h
    · exact h
    · omega

theorem inv_step {kind P r pay b : Int} {n k : Nat} (n0 : 1 ≤ n) (hk : kind = 0 ∨ kind = 1 ∨ kind = 2) (r0 : 0 ≤ r) (h : Inv kind P r n pay k b) (hb : b ≠ 0) (kn : k < n) :
    0 ≤ partI kind P n pay (k + 1) b (mon b r) ∧ partI kind P n pay (k + 1) b (mon b r) ≤ b ∧ Inv kind P r n pay (k + 1) (b - partI kind P n pay (k + 1) b (mon b r)) ∧ (kind ≠ 2 → 1 ≤ partI kind P n pay (k + 1) b (mon b r)) := by
  obtain ⟨b0, b1, h0, h1, h2⟩ := h
  have m0 := mon_nonneg b0 r0
  rcases hk with hk | hk | hk
  · subst hk
    unfold partI
    rw [if_pos rfl]
    obtain ⟨j, hj⟩ : ∃ j, n - k = j + 1 := ⟨n - k - 1, by omega⟩
    have hp : pays r pay (j + 1) b = true := by
      rw [← hj]; rcases h0 rfl with h | h
      · exact absurd h hb
      · exact h
    by_cases g1 : pay - mon b r ≤ 0
    · rw [pays_never j g1] at hp; cases hp
    · refine ⟨by omega, by omega, ⟨by omega, by omega, fun _ => ?_, (fun e => by cases e), (fun e => by cases e)⟩, fun _ => by omega⟩
      by_cases g2 : b ≤ pay - mon b r
      · left; omega
      · right
        rw [pays_on j g1 g2] at hp
        rw [show n - (k + 1) = j by omega, show min (pay - mon b r) b = pay - mon b r by omega]
        exact hp
  · subst hk
    unfold partI
    rw [if_neg (by decide), if_pos rfl]
    have e := Int.mul_ediv_add_emod P (n : Int)
    have l := Int.emod_lt_of_pos P (show (0 : Int) < (n : Int) by omega)
    have l0 := Int.emod_nonneg P (show (n : Int) ≠ 0 by omega)
    have hh := h1 rfl
    have q0 : 0 ≤ P / (n : Int) := Int.ediv_nonneg (by omega) (by omega)
    have c1 : ((k + 1 : Nat) : Int) * (P / (n : Int)) = (k : Int) * (P / (n : Int)) + P / (n : Int) := by
      rw [Int.natCast_add, Int.add_mul]; simp
    have c2 : ((k + 1 : Nat) : Int) * (P / (n : Int)) ≤ (n : Int) * (P / (n : Int)) := Int.mul_le_mul_of_nonneg_right (by omega) q0
    have c3 : P / (n : Int) = 0 → (k : Int) * (P / (n : Int)) = 0 ∧ (n : Int) * (P / (n : Int)) = 0 := fun h => by rw [h]; simp
    have g0 : 0 ≤ b - (if ((k + 1 : Nat) : Int) ≤ P % (n : Int) then P / (n : Int) + 1 else P / (n : Int)) ∧ b - (if ((k + 1 : Nat) : Int) ≤ P % (n : Int) then P / (n : Int) + 1 else P / (n : Int)) = P - (((k + 1 : Nat) : Int) * (P / (n : Int)) + min ((k + 1 : Nat) : Int) (P % (n : Int))) ∧ 1 ≤ (if ((k + 1 : Nat) : Int) ≤ P % (n : Int) then P / (n : Int) + 1 else P / (n : Int)) := by
      rw [c1] at c2 ⊢
      generalize P / (n : Int) = q at *
      generalize (n : Int) * q = y at *
      generalize (k : Int) * q = x at *
      generalize P % (n : Int) = v at *
      by_cases hq : q = 0
      · obtain ⟨z1, z2⟩ := c3 hq
        split <;> omega
      · clear c3
        split <;> omega
    obtain ⟨g1, g2, g3⟩ := g0
    exact ⟨by omega, by omega, ⟨g1, by omega, (fun e => by cases e), fun _ => g2, (fun e => by cases e)⟩, fun _ => g3⟩
  · subst hk
    unfold partI
    rw [if_neg (by decide), if_neg (by decide)]
    obtain ⟨hP, _⟩ : b = P ∧ k < n := by
      rcases h2 rfl with h | h
      · exact absurd h hb
      · exact h
    by_cases g : k + 1 < n
    · rw [if_pos g]
      exact ⟨by omega, by omega, ⟨by omega, by omega, (fun e => by cases e), (fun e => by cases e), fun _ => .inr ⟨by omega, g⟩⟩, fun h => absurd rfl h⟩
    · rw [if_neg g]
      exact ⟨by omega, by omega, ⟨by omega, by omega, (fun e => by cases e), (fun e => by cases e), fun _ => .inl (by omega)⟩, fun h => absurd rfl h⟩
end Go.Proofs.YtgdmkcbbomfmdaaGreatDoor.IntM
