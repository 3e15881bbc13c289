/-
  Ours: a payment's moves over the books of a loan, as numbers.
-/
import Derived.Test.YtplebplpachgiabDoorLedPost
import Derived.Test.YtplebplpachgiabDoorLedTrialM
import Derived.Test.YtplebplpachgiabDoorLedPure
import Derived.Test.YtplebplpachgiabDoorWatMv
import Derived.Test.YtplebplpachgiabDoorWatTwM
namespace Go.Proofs.YtplebplpachgiabDoor
open Go.RowKit LedM WatM

namespace WatM
theorem mv_cons (e : Ent) (es : List Ent) (j : Int) : mv (e :: es) j = mv1 e j + mv es j := rfl
theorem mv_cash (j : Int) : ∀ cs : List (Int × Int), (∀ c ∈ cs, 0 ≤ c.2) → mv (cashE cs) j = total (cs.map fun c => mv1 ⟨0, c.1, c.2⟩ j)
  | [], _ => rfl
  | c :: r, h => by
    have ih := mv_cash j r (fun c hc => h c (List.mem_cons_of_mem _ hc))
    have h0 := h c (List.mem_cons_self ..)
    show mv (if 0 < c.2 then ⟨0, c.1, c.2⟩ :: cashE r else cashE r) j = mv1 ⟨0, c.1, c.2⟩ j + total (r.map fun c => mv1 ⟨0, c.1, c.2⟩ j)
    rw [← ih]
    split
    · rfl
    · have e : c.2 = 0 := by omega
      rw [e]
      simp [mv1]
theorem mv_swap (j : Int) : ∀ es : List Ent, mv (es.map swapE) j = -mv es j
  | [] => rfl
  | e :: r => by
    have := mv_swap j r
    show mv1 (swapE e) j + mv (r.map swapE) j = -(mv1 e j + mv r j)
    rw [this]
    unfold mv1 swapE
    simp only
    omega
theorem entE_sw (e : Ent) : entE (swapE e) = entE e := by
  have a : (e.c == e.d) = (e.d == e.c) := by cases h : e.d == e.c <;> simp at h ⊢ <;> omega
  unfold entE swapE
  simp only [a]
  cases isA e.c <;> cases isA e.d <;> rfl
theorem cash_mem : ∀ {cs : List (Int × Int)} {e : Ent}, e ∈ cashE cs → ∃ c ∈ cs, 0 < c.2 ∧ e = ⟨0, c.1, c.2⟩
  | c :: r, e, h => by
    unfold cashE at h
    split at h
    · rename_i hp
      rcases List.mem_cons.1 h with rfl | h
      · exact ⟨c, List.mem_cons_self .., hp, rfl⟩
      · obtain ⟨c', a, b⟩ := cash_mem h
        exact ⟨c', List.mem_cons_of_mem _ a, b⟩
    · obtain ⟨c', a, b⟩ := cash_mem h
      exact ⟨c', List.mem_cons_of_mem _ a, b⟩
theorem ents_mem {f i p u r : Int} {e : Ent} (h : e ∈ entsP f i p u r) : entE e = 0 ∧ (e.a = f ∨ e.a = i ∨ e.a = p ∨ e.a = u ∨ e.a = r) ∧ 0 < e.a ∧ e.d = 0 ∧ 0 ≤ e.c ∧ e.c < 12 := by
  obtain ⟨c, hc, hp, rfl⟩ := cash_mem h
  simp only [crs, List.mem_cons, List.not_mem_nil, or_false] at hc
  rcases hc with rfl | rfl | rfl | rfl | rfl <;> simp only at hp ⊢ <;> refine ⟨?_, by simp, hp, trivial, by decide, by decide⟩ <;> (unfold entE isA; simp; omega)
theorem ents_fault (f i p u r : Int) : faultE (entsP f i p u r) = 0 := fault_all fun _ he => (ents_mem he).1
theorem undo_fault (f i p u r : Int) : faultE (undoP f i p u r) = 0 := fault_all fun e he => by
  obtain ⟨x, hx, rfl⟩ := List.mem_map.1 he
  rw [entE_sw]; exact (ents_mem hx).1
theorem ents_ok {f i p u r : Int} (hf : i64 f) (hi : i64 i) (hp : i64 p) (hu : i64 u) (hr : i64 r) : ∀ e ∈ entsP f i p u r, EntOk e := fun e he => by
  obtain ⟨_, h, _, h1, h2, h3⟩ := ents_mem he
  refine ⟨by rw [h1]; exact ⟨by decide, by decide⟩, ⟨by omega, by omega⟩, ?_⟩
  rcases h with h | h | h | h | h <;> rw [h] <;> assumption
theorem undo_ok {f i p u r : Int} (hf : i64 f) (hi : i64 i) (hp : i64 p) (hu : i64 u) (hr : i64 r) : ∀ e ∈ undoP f i p u r, EntOk e := fun e he => by
  obtain ⟨x, hx, rfl⟩ := List.mem_map.1 he
  have := ents_ok hf hi hp hu hr x hx
  exact ⟨this.2.1, this.1, this.2.2⟩
/-- The books of a loan; behind a payment. -/
def lentL (f i p s : Int) : List Int := [0, p, i, f, 0, 0, -p - s, -i, -f, s, 0, 0]
def paidL (f i p s x y z u r : Int) : List Int := [x + y + z + u + r, p - z, i - y, f - x, -u, 0, -p - s, -i, -f, s, -r, 0]
theorem moved_lent {f i p s x y z u r : Int} (hx : 0 ≤ x) (hy : 0 ≤ y) (hz : 0 ≤ z) (hu : 0 ≤ u) (hr : 0 ≤ r) : moved (lentL f i p s) (entsP x y z u r) = paidL f i p s x y z u r := by
  refine ext12 (moved_len _ _) rfl fun j hj => ?_
  rw [moved_at _ _ j hj]
  unfold entsP
  rw [mv_cash _ _ (by intro c hc; simp only [crs, List.mem_cons, List.not_mem_nil, or_false] at hc; rcases hc with rfl | rfl | rfl | rfl | rfl <;> assumption)]
  have : j = 0 ∨ j = 1 ∨ j = 2 ∨ j = 3 ∨ j = 4 ∨ j = 5 ∨ j = 6 ∨ j = 7 ∨ j = 8 ∨ j = 9 ∨ j = 10 ∨ j = 11 := by omega
  rcases this with e | e | e | e | e | e | e | e | e | e | e | e <;> subst e <;> simp [crs, total, mv1, lentL, paidL] <;> omega
theorem moved_back {l A : List Int} {x y z u r : Int} (hl : l.length = 12) (h : moved l (entsP x y z u r) = A) : moved A (undoP x y z u r) = l := by
  refine ext12 (moved_len _ _) hl fun j hj => ?_
  rw [moved_at _ _ j hj, ← h, moved_at _ _ j hj]
  unfold undoP
  rw [mv_swap]; omega
theorem all12 {p : Nat → Bool} (h : p 0 = true ∧ p 1 = true ∧ p 2 = true ∧ p 3 = true ∧ p 4 = true ∧ p 5 = true ∧ p 6 = true ∧ p 7 = true ∧ p 8 = true ∧ p 9 = true ∧ p 10 = true ∧ p 11 = true) : (List.range 12).all p = true := by
  rw [List.all_eq_true]
  intro j hj
  have hj : j < 12 := by simpa using hj
  have : j = 0 ∨ j = 1 ∨ j = 2 ∨ j = 3 ∨ j = 4 ∨ j = 5 ∨ j = 6 ∨ j = 7 ∨ j = 8 ∨ j = 9 ∨ j = 10 ∨ j = 11 := by omega
  rcases this with e | e | e | e | e | e | e | e | e | e | e | e <;> subst e <;> simp [h]
theorem own_up {j : Nat} {x : Int} (hd : isD (j : Int) = true) (h : 0 ≤ x) : ownB j x = true := by
  unfold ownB; rw [hd]
  by_cases e : x = 0
  · simp [e]
  · have : 0 < x := by omega
    simp [this]
theorem own_dn {j : Nat} {x : Int} (hd : isD (j : Int) = false) (h : x ≤ 0) : ownB j x = true := by
  unfold ownB; rw [hd]
  by_cases e : x = 0
  · simp [e]
  · have : ¬0 < x := by omega
    simp [this]
/-- Twelve numbers that may stand in books. -/
theorem fine12 {b0 b1 b2 b3 b4 b6 b7 b8 b9 b10 : Int} (h0 : 0 ≤ b0 ∧ b0 ≤ 9000000000000000) (h1 : 0 ≤ b1 ∧ b1 ≤ 9000000000000000) (h2 : 0 ≤ b2 ∧ b2 ≤ 9000000000000000) (h3 : 0 ≤ b3 ∧ b3 ≤ 9000000000000000) (h4 : -9000000000000000 ≤ b4 ∧ b4 ≤ 0) (h6 : -9000000000000000 ≤ b6 ∧ b6 ≤ 0) (h7 : -9000000000000000 ≤ b7 ∧ b7 ≤ 0) (h8 : -9000000000000000 ≤ b8 ∧ b8 ≤ 0) (h9 : 0 ≤ b9 ∧ b9 ≤ 9000000000000000) (h10 : -9000000000000000 ≤ b10 ∧ b10 ≤ 0) :
    fitsL [b0, b1, b2, b3, b4, 0, b6, b7, b8, b9, b10, 0] = true ∧ rangeB [b0, b1, b2, b3, b4, 0, b6, b7, b8, b9, b10, 0] = true ∧ sidesB [b0, b1, b2, b3, b4, 0, b6, b7, b8, b9, b10, 0] = true := by
  refine ⟨all12 ?_, all12 ?_, all12 ?_⟩
  · simp [smOk]; omega
  · simp; omega
  · exact ⟨own_up rfl h0.1, own_up rfl h1.1, own_up rfl h2.1, own_up rfl h3.1, own_dn rfl h4.2, rfl, own_dn rfl h6.2, own_dn rfl h7.2, own_dn rfl h8.2, own_up rfl h9.1, own_dn rfl h10.2, rfl⟩
theorem total_split : ∀ l : List Int, total (ups l) + total (dns l) = total l
  | [] => rfl
  | x :: r => by
    have ih := total_split r
    unfold ups dns at ih ⊢
    by_cases h : 0 < x
    · simp only [List.filter_cons, decide_eq_true h, if_true, Bool.not_true, Bool.false_eq_true, if_false, total]
      omega
    · simp only [List.filter_cons, decide_eq_false h, Bool.false_eq_true, if_false, Bool.not_false, if_true, total]
      omega
theorem total_most : ∀ (l : List Int) (M : Int), 0 ≤ M → (∀ x ∈ l, x ≤ M) → total l ≤ M * (l.length : Int)
  | [], M, _, _ => by simp [total]
  | x :: r, M, hM, h => by
    have ih := total_most r M hM (fun y hy => h y (List.mem_cons_of_mem _ hy))
    have := h x (List.mem_cons_self ..)
    have e : M * ((x :: r).length : Int) = M * (r.length : Int) + M := by rw [List.length_cons]; push_cast; rw [Int.mul_add, Int.mul_one]
    rw [e]
    show x + total r ≤ _
    omega
/-- Books that come to nothing in all: the trial balance. -/
theorem trial_even {l : List Int} (hl : l.length = 12) (h0 : total l = 0) (hb : ∀ x ∈ l, x ≤ 9000000000000000) : ∃ d, trV l = .tuple #[.int .i64 d, .int .i64 d, .bool true] := by
  have hs := total_split l
  have e : trD l = trC l := by unfold trD trC; omega
  have hp := trD_pos l
  have hm := total_most (ups l) 9000000000000000 (by decide) (fun x hx => hb x (List.mem_filter.1 hx).1)
  have hlen : (ups l).length ≤ 12 := by have := List.length_filter_le (fun x => decide (0 < x)) l; rw [hl] at this; exact this
  have hk : trD l ≤ 9223372036854775807 := by unfold trD; omega
  have ok : trOk l = true := by
    unfold trOk
    rw [← e]
    have : smOk (trD l) = true := by unfold smOk; exact decide_eq_true ⟨by omega, hk⟩
    rw [this]; rfl
  refine ⟨trD l, ?_⟩
  unfold trV
  rw [ok, ← e]; rfl
end WatM
end Go.Proofs.YtplebplpachgiabDoor
