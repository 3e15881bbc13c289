/-
  Ours: a box as data: its notices, by rising number.
-/
import Derived.Test.YteppdlaoeoeplaaLedOwn
namespace Go.Proofs.Yteppdlaoeoeplaa
open Go.RowKit

namespace ObM
/-- A notice; where its bytes lie, and the bytes. -/
structure En where
  id : Int
  att : Int
  nx : Int
  ba : Option Addr
  bn : Nat
  bc : Nat
  bs : List Nat
def enL (e : En) : List Value := [.int .i64 e.id, .int .i64 e.att, .int .i64 e.nx, .slice e.ba e.bn e.bc]
abbrev enV (e : En) : Value := .agg #[.int .i64 e.id, .int .i64 e.att, .int .i64 e.nx, .slice e.ba e.bn e.bc]
abbrev En.bv (e : En) : Value := .slice e.ba e.bn e.bc
def Rise (L : List En) : Prop := L.Pairwise (fun a b => a.id < b.id)
def lk (L : List En) (k : Int) : Option En := L.find? (fun e => e.id == k)
def ins (L : List En) (e : En) : List En := L.filter (fun x => decide (x.id < e.id)) ++ e :: L.filter (fun x => decide (e.id < x.id))
def wipe (L : List En) (k : Int) : List En := L.filter (fun x => decide (x.id ≠ k))
/-- So many ticks later, or the greatest number. -/
def lateN (now t : Int) : Int := if now > 9223372036854775807 - t then 9223372036854775807 else now + t
def sent (bo : Int → Int) (now : Int) (e : En) : En := { e with att := e.att + 1, nx := lateN now (bo (e.att + 1)) }
def dueL (L : List En) (now : Int) : List En := L.filter (fun e => decide (e.nx ≤ now))
def after (bo : Int → Int) (now : Int) (L : List En) : List En := L.map (fun e => if e.nx ≤ now then sent bo now e else e)

theorem lk_none {L : List En} {k : Int} (h : lk L k = none) : ∀ e ∈ L, e.id ≠ k := fun e he => by
  have := List.find?_eq_none.1 h e he
  simpa using this
theorem lk_some {L : List En} {k : Int} {e : En} (h : lk L k = some e) : e ∈ L ∧ e.id = k := ⟨List.mem_of_find?_eq_some h, by simpa using List.find?_some h⟩
theorem Rise.uniq {L : List En} (h : Rise L) {a b : En} (ha : a ∈ L) (hb : b ∈ L) (e : a.id = b.id) : a = b := by
  induction L with
  | nil => cases ha
  | cons x r ih =>
    obtain ⟨h1, h2⟩ := List.pairwise_cons.1 h
    rcases List.mem_cons.1 ha with ea | ha
    · rcases List.mem_cons.1 hb with eb | hb
      · rw [ea, eb]
      · have := h1 b hb; rw [ea] at e; omega
    · rcases List.mem_cons.1 hb with eb | hb
      · have := h1 a ha; rw [eb] at e; omega
      · exact ih h2 ha hb
theorem lk_of {L : List En} (h : Rise L) {e : En} (he : e ∈ L) : lk L e.id = some e := by
  cases hl : lk L e.id with
  | none => exact absurd rfl (lk_none hl e he)
  | some x => rw [h.uniq (lk_some hl).1 he (lk_some hl).2]
theorem ins_mem {L : List En} {e x : En} (hn : ∀ y ∈ L, y.id ≠ e.id) : x ∈ ins L e ↔ x = e ∨ x ∈ L := by
  simp only [ins, List.mem_append, List.mem_filter, List.mem_cons, decide_eq_true_eq]
  constructor
  · rintro (⟨h, _⟩ | h | ⟨h, _⟩)
    · exact .inr h
    · exact .inl h
    · exact .inr h
  · rintro (h | h)
    · exact .inr (.inl h)
    · have := hn x h
      rcases Int.lt_or_gt_of_ne this with q | q
      · exact .inl ⟨h, q⟩
      · exact .inr (.inr ⟨h, q⟩)
theorem ins_perm {L : List En} {e : En} (hn : ∀ y ∈ L, y.id ≠ e.id) : (ins L e).Perm (e :: L) := by
  refine (List.perm_middle).trans (List.Perm.cons _ ?_)
  have h1 : L.filter (fun x => decide (e.id < x.id)) = L.filter (fun x => !decide (x.id < e.id)) := by
    apply List.filter_congr
    intro x hx
    have := hn x hx
    by_cases h : x.id < e.id
    · rw [decide_eq_true h, decide_eq_false (by omega)]; rfl
    · rw [decide_eq_false h, decide_eq_true (by omega)]; rfl
  rw [h1]
  exact List.filter_append_perm _ _
theorem ins_rise {L : List En} {e : En} (h : Rise L) : Rise (ins L e) := by
  unfold Rise ins
  rw [List.pairwise_append, List.pairwise_cons]
  refine ⟨h.sublist List.filter_sublist, ⟨fun x hx => ?_, h.sublist List.filter_sublist⟩, fun a ha b hb => ?_⟩
  · have := (List.mem_filter.1 hx).2; simpa using this
  · have h1 : a.id < e.id := by simpa using (List.mem_filter.1 ha).2
    rcases List.mem_cons.1 hb with rfl | hb
    · exact h1
    · have h2 : e.id < b.id := by simpa using (List.mem_filter.1 hb).2
      omega
theorem wipe_rise {L : List En} {k : Int} (h : Rise L) : Rise (wipe L k) := h.sublist List.filter_sublist
theorem map_rise {L : List En} {f : En → En} (h : Rise L) (hf : ∀ e, (f e).id = e.id) : Rise (L.map f) := by
  unfold Rise
  rw [List.pairwise_map]
  exact h.imp (fun {a b} q => by rw [hf, hf]; exact q)
theorem after_rise {L : List En} {bo : Int → Int} {now : Int} (h : Rise L) : Rise (after bo now L) := map_rise h (fun e => by split <;> rfl)
/-- The notices whose numbers stand on the list have been sent. -/
def aft (bo : Int → Int) (now : Int) (ids : List Int) (L : List En) : List En := L.map (fun e => if e.id ∈ ids then sent bo now e else e)
theorem aft_rise {L : List En} {bo : Int → Int} {now : Int} {ids : List Int} (h : Rise L) : Rise (aft bo now ids L) := map_rise h (fun e => by split <;> rfl)
theorem aft_nil (bo : Int → Int) (now : Int) (L : List En) : aft bo now [] L = L := by simp [aft]
/-- One more. -/
theorem aft_step {L : List En} {bo : Int → Int} {now : Int} {ids : List Int} {k : Int} {e : En} (h : Rise L) (he : e ∈ L) (hk : e.id = k) (hn : k ∉ ids) :
    lk (aft bo now ids L) k = some e ∧ (aft bo now ids L).map (fun x => if x.id = k then sent bo now e else x) = aft bo now (ids ++ [k]) L := by
  have hm : e ∈ aft bo now ids L := by
    refine List.mem_map.2 ⟨e, he, ?_⟩
    rw [if_neg (by rw [hk]; exact hn)]
  refine ⟨hk ▸ lk_of (aft_rise h) hm, ?_⟩
  unfold aft
  rw [List.map_map]
  apply List.map_congr_left
  intro x hx
  have e1 : (if x.id ∈ ids then sent bo now x else x).id = x.id := by split <;> rfl
  simp only [Function.comp, e1, List.mem_append, List.mem_singleton]
  by_cases q : x.id = k
  · rw [if_pos q, if_pos (.inr q), h.uniq hx he (by rw [q, hk])]
  · rw [if_neg q]
    by_cases q2 : x.id ∈ ids
    · rw [if_pos q2, if_pos (.inl q2)]
    · rw [if_neg q2, if_neg (by simp [q, q2])]
theorem aft_due {L : List En} {bo : Int → Int} {now : Int} (h : Rise L) : aft bo now ((dueL L now).map (·.id)) L = after bo now L := by
  apply List.map_congr_left
  intro e he
  by_cases q : e.nx ≤ now
  · rw [if_pos q, if_pos]
    exact List.mem_map.2 ⟨e, List.mem_filter.2 ⟨he, by simpa using q⟩, rfl⟩
  · rw [if_neg q, if_neg]
    intro hm
    obtain ⟨x, hx, ex⟩ := List.mem_map.1 hm
    obtain ⟨h1, h2⟩ := List.mem_filter.1 hx
    rw [h.uniq h1 he ex] at h2
    exact q (by simpa using h2)
theorem due_rise {L : List En} {now : Int} (h : Rise L) : Rise (dueL L now) := h.sublist List.filter_sublist
theorem ids_sorted {L : List En} (h : Rise L) : (L.map (·.id)).Pairwise (fun a b => a < b) := List.pairwise_map.2 h
/-- Sorted numbers are one list. -/
theorem sort_uniq : ∀ {a b : List Int}, a.Pairwise (fun x y => x < y) → b.Pairwise (fun x y => x ≤ y) → a.Perm b → a = b
  | [], b, _, _, h => by rw [h.nil_eq]
  | x :: a, [], _, _, h => by simpa using h.length_eq
  | x :: a, y :: b, ha, hb, h => by
    obtain ⟨h1, h2⟩ := List.pairwise_cons.1 ha
    obtain ⟨h3, h4⟩ := List.pairwise_cons.1 hb
    have e : x = y := by
      rcases List.mem_cons.1 (h.mem_iff.1 (List.mem_cons_self ..)) with e | e
      · exact e
      · rcases List.mem_cons.1 (h.mem_iff.2 (List.mem_cons_self ..)) with e' | e'
        · exact e'.symm
        · have := h1 y e'; have := h3 x e; omega
    subst e
    rw [sort_uniq h2 h4 ((List.perm_cons x).1 h)]
theorem merge_sorted (l : List Int) : (l.mergeSort (fun x y => decide (x ≤ y))).Pairwise (fun x y => x ≤ y) := by
  have := List.pairwise_mergeSort (le := fun x y : Int => decide (x ≤ y)) (by intro a b c h1 h2; simp at *; omega) (by intro a b; simp; omega) l
  exact this.imp (fun {a b} h => by simpa using h)
theorem merge_is {L : List En} {l : List Int} (h : Rise L) (hp : l.Perm (L.map (·.id))) : l.mergeSort (fun x y => decide (x ≤ y)) = L.map (·.id) :=
  (sort_uniq (ids_sorted h) (merge_sorted l) (hp.symm.trans (List.mergeSort_perm ..).symm)).symm

/-! Lists of pairs with keys that are unlike. -/
theorem set_is {α β : Type} [DecidableEq α] : ∀ {P : List (α × β)} {j : Nat} {k : α} {v0 v : β}, P.Pairwise (fun a b => a.1 ≠ b.1) → P[j]? = some (k, v0) → P.set j (k, v) = P.map (fun p => if p.1 = k then (k, v) else p)
  | [], j, _, _, _, _, h => by simp at h
  | p :: P, 0, k, v0, v, hp, h => by
    obtain ⟨h1, h2⟩ := List.pairwise_cons.1 hp
    have : p = (k, v0) := by simpa using h
    subst this
    rw [List.set_cons_zero, List.map_cons, if_pos rfl]
    congr 1
    symm
    refine (List.map_congr_left (g := id) ?_).trans (List.map_id _)
    intro q hq
    exact if_neg (fun e => h1 q hq e.symm)
  | p :: P, j + 1, k, v0, v, hp, h => by
    obtain ⟨h1, h2⟩ := List.pairwise_cons.1 hp
    have hj : P[j]? = some (k, v0) := by simpa using h
    rw [List.set_cons_succ, List.map_cons, set_is h2 hj, if_neg]
    exact h1 _ (List.mem_of_getElem? hj)
theorem erase_is {α β : Type} [DecidableEq α] : ∀ {P : List (α × β)} {j : Nat} {k : α} {v0 : β}, P.Pairwise (fun a b => a.1 ≠ b.1) → P[j]? = some (k, v0) → P.eraseIdx j = P.filter (fun p => decide (p.1 ≠ k))
  | [], j, _, _, _, h => by simp at h
  | p :: P, 0, k, v0, hp, h => by
    obtain ⟨h1, h2⟩ := List.pairwise_cons.1 hp
    have : p = (k, v0) := by simpa using h
    subst this
    rw [List.eraseIdx_cons_zero, List.filter_cons_of_neg (by simp)]
    symm
    apply List.filter_eq_self.2
    intro q hq
    exact decide_eq_true (fun e => h1 q hq e.symm)
  | p :: P, j + 1, k, v0, hp, h => by
    obtain ⟨h1, h2⟩ := List.pairwise_cons.1 hp
    have hj : P[j]? = some (k, v0) := by simpa using h
    rw [List.eraseIdx_cons_succ, erase_is h2 hj, List.filter_cons_of_pos]
    exact decide_eq_true (h1 _ (List.mem_of_getElem? hj))
end ObM
end Go.Proofs.Yteppdlaoeoeplaa
