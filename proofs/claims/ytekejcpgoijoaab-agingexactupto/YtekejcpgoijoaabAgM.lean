/-
  Ours: plans as data: sound, satisfied, past due, missed, marked (pure).
-/
import Derived.Test.YtekejcpgoijoaabLedOwn
import Derived.Test.YtekejcpgoijoaabSum
namespace Go.Proofs.Ytekejcpgoijoaab
open Go.RowKit LedM

namespace AgM
structure Ins where
  d : Int
  i : Int
  p : Int
  m : Bool
def insL (x : Ins) : List Value := [.int .i64 x.d, .int .i64 x.i, .int .i64 x.p, .bool x.m]
def InsOk (x : Ins) : Prop := i64 x.d ∧ i64 x.i ∧ i64 x.p
def iz : Ins := ⟨0, 0, 0, false⟩
theorem iz_ok : InsOk iz := ⟨⟨by decide, by decide⟩, ⟨by decide, by decide⟩, ⟨by decide, by decide⟩⟩
def iN (l : List Ins) (k : Nat) : Ins := l.getD k iz
theorem iN_at {l : List Ins} {k : Nat} (h : k < l.length) : iN l k = l[k] := by simp [iN, List.getD_eq_getElem?_getD, List.getElem?_eq_getElem h]
theorem take_iN {l : List Ins} {k : Nat} (h : k < l.length) : l.take (k + 1) = l.take k ++ [iN l k] := by
  rw [iN_at h, List.take_add_one, List.getElem?_eq_getElem h]; rfl
theorem iN_ok {l : List Ins} (h : ∀ x ∈ l, InsOk x) (k : Nat) : InsOk (iN l k) := by
  by_cases hk : k < l.length
  · rw [iN_at hk]; exact h _ (List.getElem_mem hk)
  · have : iN l k = iz := by simp [iN, List.getD_eq_getElem?_getD, List.getElem?_eq_none (Nat.le_of_not_lt hk)]
    rw [this]; exact iz_ok
def am (x : Ins) : Int := x.i + x.p
def sumA : List Ins → Int
  | [] => 0
  | x :: r => am x + sumA r
theorem sumA_append : ∀ a b : List Ins, sumA (a ++ b) = sumA a + sumA b
  | [], b => by simp [sumA]
  | x :: r, b => by simp only [List.cons_append, sumA, sumA_append r b]; omega
/-- What the first k rows come to. -/
def bef (l : List Ins) (k : Nat) : Int := sumA (l.take k)
theorem bef_zero (l : List Ins) : bef l 0 = 0 := by simp [bef, sumA]
theorem bef_succ {l : List Ins} {k : Nat} (h : k < l.length) : bef l (k + 1) = bef l k + (iN l k).i + (iN l k).p := by
  unfold bef; rw [take_iN h, sumA_append]; simp only [sumA, am]; omega
theorem bef_all (l : List Ins) : bef l l.length = sumA l := by simp [bef]
/-- Is the plan sound from here on: behind the due day d, with t so far? -/
def snd : Int → Int → List Ins → Bool
  | _, _, [] => true
  | d, t, x :: r => decide (d < x.d ∧ x.d ≤ 3652059 ∧ 0 ≤ x.i ∧ t + x.i ≤ 9223372036854775807 ∧ 0 ≤ x.p ∧ t + x.i + x.p ≤ 9223372036854775807) && snd x.d (t + x.i + x.p) r
/-- The due day ahead of row k. -/
def pv (l : List Ins) (k : Nat) : Int := if k = 0 then 0 else (iN l (k - 1)).d
theorem drop_iN {l : List Ins} {k : Nat} (h : k < l.length) : l.drop k = iN l k :: l.drop (k + 1) := by rw [iN_at h]; exact List.drop_eq_getElem_cons h
/-- A row that may stand there. -/
def rowOk (l : List Ins) (k : Nat) : Prop := pv l k < (iN l k).d ∧ (iN l k).d ≤ 3652059 ∧ 0 ≤ (iN l k).i ∧ bef l k + (iN l k).i ≤ 9223372036854775807 ∧ 0 ≤ (iN l k).p ∧ bef l k + (iN l k).i + (iN l k).p ≤ 9223372036854775807
instance (l : List Ins) (k : Nat) : Decidable (rowOk l k) := by unfold rowOk; exact inferInstance
theorem snd_drop {l : List Ins} {k : Nat} (h : k < l.length) : snd (pv l k) (bef l k) (l.drop k) = (decide (rowOk l k) && snd (pv l (k + 1)) (bef l (k + 1)) (l.drop (k + 1))) := by
  rw [drop_iN h, bef_succ h]
  show (decide _ && _) = _
  rfl
theorem snd_end (l : List Ins) (d t : Int) : snd d t (l.drop l.length) = true := by simp [snd]
def Snd (l : List Ins) : Bool := snd 0 0 l
theorem snd_start (l : List Ins) : Snd l = snd (pv l 0) (bef l 0) (l.drop 0) := by rw [bef_zero]; rfl
theorem snd_rows {l : List Ins} : Snd l = true ↔ ∀ k, k < l.length → rowOk l k := by
  have key : ∀ m k, k + m = l.length → (snd (pv l k) (bef l k) (l.drop k) = true ↔ ∀ j, k ≤ j → j < l.length → rowOk l j) := by
    intro m
    induction m with
    | zero =>
      intro k hk
      obtain rfl : k = l.length := by omega
      rw [snd_end]
      exact ⟨fun _ j h1 h2 => by omega, fun _ => rfl⟩
    | succ m ih =>
      intro k hk
      rw [snd_drop (by omega), Bool.and_eq_true, decide_eq_true_iff, ih (k + 1) (by omega)]
      constructor
      · rintro ⟨h1, h2⟩ j hj hl
        by_cases e : j = k
        · subst e; exact h1
        · exact h2 j (by omega) hl
      · intro h
        exact ⟨h k (Nat.le_refl _) (by omega), fun j hj hl => h j (by omega) hl⟩
  rw [snd_start, key l.length 0 (by omega)]
  exact ⟨fun h k hk => h k (Nat.zero_le _) hk, fun h k _ hk => h k hk⟩
theorem snd_fail {l : List Ins} {k : Nat} (h : k < l.length) (hn : ¬ rowOk l k) : Snd l = false := by
  cases e : Snd l
  · rfl
  · exact absurd (snd_rows.1 e k h) hn
/-- What a sound plan is like. -/
theorem snd_row {l : List Ins} (h : Snd l = true) {k : Nat} (hk : k < l.length) : 1 ≤ (iN l k).d ∧ (iN l k).d ≤ 3652059 ∧ 0 ≤ (iN l k).i ∧ 0 ≤ (iN l k).p := by
  have key : ∀ k, k < l.length → 1 ≤ (iN l k).d ∧ (iN l k).d ≤ 3652059 ∧ 0 ≤ (iN l k).i ∧ 0 ≤ (iN l k).p := by
    intro k
    induction k with
    | zero => intro hk; have := snd_rows.1 h 0 hk; unfold rowOk at this; simp only [pv, if_true] at this; omega
    | succ k ih => intro hk; have := snd_rows.1 h (k + 1) hk; have := ih (by omega); unfold rowOk at *; simp only [pv, Nat.succ_ne_zero, if_false, Nat.add_sub_cancel] at *; omega
  exact key k hk
theorem snd_rise {l : List Ins} (h : Snd l = true) {j k : Nat} (hj : j < k) (hk : k < l.length) : (iN l j).d < (iN l k).d := by
  have step : ∀ k, k + 1 < l.length → (iN l k).d < (iN l (k + 1)).d := fun k hk => by have := (snd_rows.1 h (k + 1) hk).1; simpa [pv] using this
  induction k with
  | zero => omega
  | succ k ih =>
    have := step k hk
    by_cases e : j = k
    · subst e; exact this
    · have := ih (by omega) (by omega); omega
theorem snd_bef {l : List Ins} (h : Snd l = true) {k : Nat} (hk : k ≤ l.length) : 0 ≤ bef l k ∧ bef l k ≤ 9223372036854775807 := by
  induction k with
  | zero => rw [bef_zero]; omega
  | succ k ih =>
    have h1 := snd_rows.1 h k (by omega)
    have h2 := snd_row h (k := k) (by omega)
    have := ih (by omega)
    unfold rowOk at h1
    rw [bef_succ (by omega)]
    omega
theorem snd_mono {l : List Ins} (h : Snd l = true) {j k : Nat} (hj : j ≤ k) (hk : k ≤ l.length) : bef l j ≤ bef l k := by
  induction k with
  | zero => obtain rfl : j = 0 := by omega
            exact Int.le_refl _
  | succ k ih =>
    by_cases e : j = k + 1
    · subst e; exact Int.le_refl _
    · have := ih (by omega) (by omega)
      have := snd_row h (k := k) (by omega)
      rw [bef_succ (by omega)]; omega
/-- The plan, or no rows. -/
def sP (l : List Ins) : List Ins := if Snd l then l else []
theorem sP_snd (l : List Ins) : Snd (sP l) = true := by
  unfold sP; cases e : Snd l
  · rfl
  · simpa using e
theorem sP_yes {l : List Ins} (h : Snd l = true) : sP l = l := by simp [sP, h]
theorem sP_no {l : List Ins} (h : Snd l = false) : sP l = [] := by simp [sP, h]
theorem sP_len (l : List Ins) : (sP l).length ≤ l.length := by unfold sP; split <;> simp
theorem sP_ok {l : List Ins} (h : ∀ x ∈ l, InsOk x) : ∀ x ∈ sP l, InsOk x := by unfold sP; split; exact h; intro x hx; cases hx
/-- What was paid. -/
def pd (A : Int) : Int := if A < 0 then 0 else A
theorem pd_ge (A : Int) : 0 ≤ pd A := by unfold pd; split <;> omega
theorem pd_le {A : Int} (h : i64 A) : pd A ≤ 9223372036854775807 := by unfold pd i64 at *; split <;> omega
/-- n rows of a sound plan are satisfied where p was paid and something is owed. -/
def Sat (l : List Ins) (p : Int) (n : Nat) : Prop := n < l.length ∧ bef l n ≤ p ∧ (n + 1 = l.length ∨ p < bef l (n + 1))
theorem Sat.iff {l : List Ins} {p : Int} {n : Nat} (hs : Snd l = true) (h : Sat l p n) {j : Nat} (hj : j < l.length) : bef l j ≤ p ↔ j ≤ n := by
  obtain ⟨h1, h2, h3⟩ := h
  constructor
  · intro hb
    by_cases e : j ≤ n
    · exact e
    · have := snd_mono hs (j := n + 1) (k := j) (by omega) (by omega)
      omega
  · intro e
    have := snd_mono hs (j := j) (k := n) e (by omega)
    omega
theorem Sat.uniq {l : List Ins} {p : Int} {n m : Nat} (hs : Snd l = true) (h : Sat l p n) (h' : Sat l p m) : n = m := by
  have a := (h.iff hs h'.1).1 h'.2.1
  have b := (h'.iff hs h.1).1 h.2.1
  omega
theorem Sat.ex {l : List Ins} (p : Int) (hp : 0 ≤ p) (h0 : 0 < l.length) : ∃ n, Sat l p n := by
  have key : ∀ m, m < l.length → ∃ n, n ≤ m ∧ bef l n ≤ p ∧ (n = m ∨ p < bef l (n + 1)) := by
    intro m
    induction m with
    | zero => intro _; exact ⟨0, Nat.le_refl _, by rw [bef_zero]; exact hp, .inl rfl⟩
    | succ m ih =>
      intro hm
      obtain ⟨n, h1, h2, h3⟩ := ih (by omega)
      rcases h3 with rfl | h3
      · by_cases hb : bef l (n + 1) ≤ p
        · exact ⟨n + 1, Nat.le_refl _, hb, .inl rfl⟩
        · exact ⟨n, by omega, h2, .inr (by omega)⟩
      · exact ⟨n, by omega, h2, .inr h3⟩
  obtain ⟨n, h1, h2, h3⟩ := key (l.length - 1) (by omega)
  refine ⟨n, by omega, h2, ?_⟩
  rcases h3 with h3 | h3
  · exact .inl (by omega)
  · exact .inr h3
/-- The rows that are satisfied. -/
def SatF (l : List Ins) (A R : Int) (n : Nat) : Prop := if R ≤ 0 ∨ l.length = 0 then n = l.length else Sat l (pd A) n
theorem SatF.ex (l : List Ins) (A R : Int) : ∃ n, SatF l A R n := by
  unfold SatF
  by_cases h : R ≤ 0 ∨ l.length = 0
  · exact ⟨_, by rw [if_pos h]⟩
  · simp only [if_neg h]; exact Sat.ex _ (pd_ge A) (by omega)
theorem SatF.uniq {l : List Ins} {A R : Int} {n m : Nat} (hs : Snd l = true) (h : SatF l A R n) (h' : SatF l A R m) : n = m := by
  unfold SatF at h h'
  split at h
  · rename_i c; rw [if_pos c] at h'; omega
  · rename_i c; rw [if_neg c] at h'; exact h.uniq hs h'
theorem SatF.le {l : List Ins} {A R : Int} {n : Nat} (h : SatF l A R n) : n ≤ l.length := by
  unfold SatF at h; split at h
  · omega
  · exact Nat.le_of_lt h.1
theorem SatF.lt {l : List Ins} {A R : Int} {n : Nat} (h : SatF l A R n) : n < l.length ↔ (0 < R ∧ 0 < l.length) := by
  unfold SatF at h; split at h
  · omega
  · have := h.1; omega
theorem SatF.sat {l : List Ins} {A R : Int} {n : Nat} (h : SatF l A R n) (hn : n < l.length) : Sat l (pd A) n := by
  have := h.lt.1 hn
  unfold SatF at h; rwa [if_neg (by omega)] at h
/-- Days late. -/
def ltD (d t : Int) : Int := if t ≤ d then 0 else t - d
/-- The first c rows are due ahead of t. -/
def Pre (l : List Ins) (t : Int) (c : Nat) : Prop := c ≤ l.length ∧ ∀ j, j < l.length → ((iN l j).d < t ↔ j < c)
theorem Pre.ex {l : List Ins} (hs : Snd l = true) (t : Int) : ∃ c, Pre l t c := by
  have key : ∀ m, m ≤ l.length → ∃ c, c ≤ m ∧ ∀ j, j < m → ((iN l j).d < t ↔ j < c) := by
    intro m
    induction m with
    | zero => intro _; exact ⟨0, Nat.le_refl _, fun j hj => by omega⟩
    | succ m ih =>
      intro hm
      obtain ⟨c, h1, h2⟩ := ih (by omega)
      by_cases hd : (iN l m).d < t
      · refine ⟨m + 1, Nat.le_refl _, fun j hj => ⟨fun _ => hj, fun _ => ?_⟩⟩
        by_cases e : j = m
        · subst e; exact hd
        · have := snd_rise hs (j := j) (k := m) (by omega) (by omega); omega
      · refine ⟨c, by omega, fun j hj => ?_⟩
        by_cases e : j = m
        · subst e; exact ⟨fun h => absurd h hd, fun h => by omega⟩
        · exact h2 j (by omega)
  obtain ⟨c, h1, h2⟩ := key l.length (Nat.le_refl _)
  exact ⟨c, h1, h2⟩
/-- What is past due, where the last row is not. -/
def clampV (s R : Int) : Int := if s < 0 then 0 else if R < s then R else s
def pdV (l : List Ins) (A R t : Int) (c : Nat) : Int := if R ≤ 0 ∨ l.length = 0 then 0 else if (iN l (l.length - 1)).d < t then R else clampV (bef l c - pd A) R
/-- The rows that were missed, among the first k. -/
def isM (l : List Ins) (n : Nat) (t g : Int) (k : Nat) : Bool := decide (n ≤ k) && (!(iN l k).m && decide ((if g < 0 then 0 else g) < ltD (iN l k).d t))
def msN (l : List Ins) (n : Nat) (t g : Int) (k : Nat) : List Nat := (List.range k).filter (isM l n t g)
theorem msN_succ (l : List Ins) (n : Nat) (t g : Int) (k : Nat) : msN l n t g (k + 1) = msN l n t g k ++ (if isM l n t g k then [k] else []) := by
  unfold msN; rw [List.range_succ, List.filter_append]; congr 1
  simp only [List.filter_cons, List.filter_nil]
theorem msN_start (l : List Ins) (n : Nat) (t g : Int) (k : Nat) (h : k ≤ n) : msN l n t g k = [] := by
  unfold msN; rw [List.filter_eq_nil_iff]; intro j hj
  have : j < k := by simpa using hj
  simp [isM]; omega
theorem msN_mem {l : List Ins} {n : Nat} {t g : Int} {k j : Nat} : j ∈ msN l n t g k ↔ j < k ∧ isM l n t g j = true := by simp [msN]
theorem msN_len (l : List Ins) (n : Nat) (t g : Int) (k : Nat) : (msN l n t g k).length ≤ k := by
  unfold msN; exact Nat.le_trans (List.length_filter_le _ _) (by simp)
def nI (l : List Nat) : List Int := l.map Int.ofNat
/-- The plan with these rows marked. -/
def mk1 (x : Ins) : Ins := ⟨x.d, x.i, x.p, true⟩
def mkL (l : List Ins) (rows : List Int) : List Ins := l.mapIdx (fun k x => if rows.contains (k : Int) then mk1 x else x)
theorem mkL_len (l : List Ins) (rows : List Int) : (mkL l rows).length = l.length := by simp [mkL]
theorem mkL_at {l : List Ins} {rows : List Int} {k : Nat} (h : k < l.length) : iN (mkL l rows) k = if rows.contains (k : Int) then mk1 (iN l k) else iN l k := by
  rw [iN_at (by rw [mkL_len]; exact h), iN_at h]; simp [mkL]
theorem mkL_nil (l : List Ins) : mkL l [] = l := by
  unfold mkL
  simp only [List.contains_nil, Bool.false_eq_true, if_false]
  apply List.ext_getElem
  · simp
  · intro k h1 h2; simp
theorem ext_iN {a b : List Ins} (h : a.length = b.length) (hx : ∀ k, k < a.length → iN a k = iN b k) : a = b := by
  apply List.ext_getElem h
  intro k h1 h2
  have := hx k h1
  rwa [iN_at h1, iN_at h2] at this
theorem mkL_push (l : List Ins) (rows : List Int) (r : Int) : mkL l (rows ++ [r]) = if 0 ≤ r ∧ r < (l.length : Int) then (mkL l rows).set r.toNat (mk1 (iN (mkL l rows) r.toNat)) else mkL l rows := by
  split
  · rename_i h
    refine ext_iN (by simp [mkL_len]) (fun k hk => ?_)
    rw [mkL_len] at hk
    rw [mkL_at hk]
    have hr : r.toNat < l.length := by omega
    by_cases e : (k : Int) = r
    · have e2 : r.toNat = k := by omega
      have : iN ((mkL l rows).set r.toNat (mk1 (iN (mkL l rows) r.toNat))) k = mk1 (iN (mkL l rows) k) := by
        rw [e2, iN_at (by simp [mkL_len]; exact hk)]; simp
      rw [this, mkL_at hk]
      simp only [List.contains_append, e, List.contains_cons, List.contains_nil, BEq.rfl, Bool.or_false, Bool.or_true, if_true]
      split <;> rfl
    · have e2 : r.toNat ≠ k := by omega
      have : iN ((mkL l rows).set r.toNat (mk1 (iN (mkL l rows) r.toNat))) k = iN (mkL l rows) k := by
        have h1 : k < ((mkL l rows).set r.toNat (mk1 (iN (mkL l rows) r.toNat))).length := by simp [mkL_len]; exact hk
        have h2 : k < (mkL l rows).length := by rw [mkL_len]; exact hk
        rw [iN_at h1, iN_at h2, List.getElem_set_ne e2]
      rw [this, mkL_at hk]
      have e3 : ((k : Int) == r) = false := by simpa using e
      simp only [List.contains_append, List.contains_cons, List.contains_nil, e3, Bool.or_false]
  · rename_i h
    refine ext_iN (by simp [mkL_len]) (fun k hk => ?_)
    rw [mkL_len] at hk
    rw [mkL_at hk, mkL_at hk]
    have e3 : ((k : Int) == r) = false := by simp; omega
    simp only [List.contains_append, List.contains_cons, List.contains_nil, e3, Bool.or_false]
/-- Marking changes nothing but marks. -/
theorem mkL_row {l : List Ins} {rows : List Int} {k : Nat} (h : k < l.length) : (iN (mkL l rows) k).d = (iN l k).d ∧ (iN (mkL l rows) k).i = (iN l k).i ∧ (iN (mkL l rows) k).p = (iN l k).p := by
  rw [mkL_at h]; split <;> exact ⟨rfl, rfl, rfl⟩
theorem mkL_bef (l : List Ins) (rows : List Int) : ∀ k, k ≤ l.length → bef (mkL l rows) k = bef l k
  | 0, _ => by rw [bef_zero, bef_zero]
  | k + 1, h => by rw [bef_succ (by rw [mkL_len]; omega), bef_succ (by omega), mkL_bef l rows k (by omega), (mkL_row (by omega)).2.1, (mkL_row (by omega)).2.2]
theorem mkL_rowOk {l : List Ins} {rows : List Int} {k : Nat} (h : k < l.length) : rowOk (mkL l rows) k ↔ rowOk l k := by
  unfold rowOk
  rw [mkL_bef l rows k (by omega), (mkL_row h).1, (mkL_row h).2.1, (mkL_row h).2.2]
  have : pv (mkL l rows) k = pv l k := by unfold pv; split; rfl; exact (mkL_row (by omega)).1
  rw [this]
theorem mkL_snd (l : List Ins) (rows : List Int) : Snd (mkL l rows) = Snd l := by
  rw [Bool.eq_iff_iff, snd_rows, snd_rows, mkL_len]
  exact ⟨fun h k hk => (mkL_rowOk hk).1 (h k hk), fun h k hk => (mkL_rowOk hk).2 (h k hk)⟩
theorem mkL_sat {l : List Ins} {rows : List Int} {A R : Int} {n : Nat} : SatF (mkL l rows) A R n ↔ SatF l A R n := by
  unfold SatF Sat
  rw [mkL_len]
  split
  · exact Iff.rfl
  · constructor
    · rintro ⟨h1, h2, h3⟩; rw [mkL_bef l rows _ (by omega)] at h2; rw [mkL_bef l rows _ (by omega)] at h3; exact ⟨h1, h2, h3⟩
    · rintro ⟨h1, h2, h3⟩; rw [mkL_bef l rows _ (by omega), mkL_bef l rows _ (by omega)]; exact ⟨h1, h2, h3⟩
theorem mkL_ok {l : List Ins} (rows : List Int) (h : ∀ x ∈ l, InsOk x) : ∀ x ∈ mkL l rows, InsOk x := by
  intro x hx
  obtain ⟨k, hk, rfl⟩ := List.getElem_of_mem hx
  have hk' : k < l.length := by rwa [mkL_len] at hk
  rw [← iN_at hk, mkL_at hk']
  have := iN_ok h k
  split
  · exact this
  · exact this
end AgM
end Go.Proofs.Ytekejcpgoijoaab
