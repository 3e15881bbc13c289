/-
  Ours: what follows of days and amounts past due (pure).
-/
import Derived.Test.YtekejcpgoijoaaaAgOld
namespace Go.Proofs.Ytekejcpgoijoaaa
open Go.RowKit LedM AgM

namespace AgM
theorem ltD_pos (d t : Int) : 0 < ltD d t ↔ d < t := by unfold ltD; split <;> omega
theorem ltD_ge (d t : Int) : 0 ≤ ltD d t := by unfold ltD; split <;> omega
theorem clampV_le {s R : Int} (hR : 0 < R) : clampV s R ≤ R := by unfold clampV; split; omega; split <;> omega
theorem clampV_ge {s R : Int} (hR : 0 < R) : 0 ≤ clampV s R := by unfold clampV; split; omega; split <;> omega
theorem clampV_pos {s R : Int} (hR : 0 < R) : 0 < clampV s R ↔ 0 < s := by unfold clampV; split; omega; split <;> omega
theorem clampV_mono {s s' R R' : Int} (h : s ≤ s') (hR : R ≤ R') (h0 : 0 < R) : clampV s R ≤ clampV s' R' := by
  unfold clampV; split <;> split <;> (try split) <;> (try split) <;> omega
theorem pdV_in {l : List Ins} {A R t : Int} {c : Nat} (hR : 0 < R) (h0 : 0 < l.length) : pdV l A R t c = if (iN l (l.length - 1)).d < t then R else clampV (bef l c - pd A) R := by
  unfold pdV; rw [if_neg (by omega)]
theorem sat_pre {l : List Ins} {p t : Int} {n c : Nat} (hs : Snd l = true) (hn : Sat l p n) (hp : Pre l t c) (hl : ¬ (iN l (l.length - 1)).d < t) : p < bef l c ↔ (iN l n).d < t := by
  obtain ⟨h1, h2, h3⟩ := hn
  rw [hp.2 n h1]
  have hc : ¬ l.length - 1 < c := fun h => hl ((hp.2 (l.length - 1) (by omega)).2 h)
  constructor
  · intro h
    by_cases e : n < c
    · exact e
    · have := snd_mono hs (j := c) (k := n) (by omega) (by omega); omega
  · intro h
    have := snd_mono hs (j := n + 1) (k := c) (by omega) hp.1
    omega
structure Agr (l : List Ins) (R t d p : Int) : Prop where
  d0 : 0 ≤ d
  p0 : 0 ≤ p
  pR : p ≤ R
  iff : 0 < d ↔ 0 < p
  last : (iN l (l.length - 1)).d < t → p = R ∧ 0 < d
  first : ¬ (iN l 0).d < t → d = 0
theorem agr {l : List Ins} {A R t : Int} {n c : Nat} (hs : Snd l = true) (h0 : 0 < l.length) (hR : 0 < R) (hn : Sat l (pd A) n) (hp : Pre l t c) : Agr l R t (ltD (iN l n).d t) (pdV l A R t c) := by
  have rise : ∀ j k, j ≤ k → k < l.length → (iN l j).d ≤ (iN l k).d := fun j k hj hk => by
    by_cases e : j = k
    · subst e; exact Int.le_refl _
    · exact Int.le_of_lt (snd_rise hs (by omega) hk)
  have r1 := rise n (l.length - 1) (by have := hn.1; omega) (by omega)
  have r0 := rise 0 n (by omega) hn.1
  rw [pdV_in hR h0]
  by_cases hl : (iN l (l.length - 1)).d < t
  · rw [if_pos hl]
    have hd : 0 < ltD (iN l n).d t := (ltD_pos _ _).2 (by omega)
    exact ⟨ltD_ge _ _, by omega, Int.le_refl _, ⟨fun _ => hR, fun _ => hd⟩, fun _ => ⟨rfl, hd⟩, fun h => by omega⟩
  · rw [if_neg hl]
    refine ⟨ltD_ge _ _, clampV_ge hR, clampV_le hR, ?_, fun h => absurd h hl, fun h => ?_⟩
    · rw [clampV_pos hR, ltD_pos, ← sat_pre hs hn hp hl]; omega
    · have := ltD_pos (iN l n).d t; have := ltD_ge (iN l n).d t; omega
theorem daysV_in {l : List Ins} {n : Nat} {t : Int} (hs : Snd l = true) (hn : n < l.length) : daysV l n t = ltD (iN l n).d t := by
  unfold daysV; rw [sP_yes hs, if_pos hn]
end AgM
end Go.Proofs.Ytekejcpgoijoaaa
