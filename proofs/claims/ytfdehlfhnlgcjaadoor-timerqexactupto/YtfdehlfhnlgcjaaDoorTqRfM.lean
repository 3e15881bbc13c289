/-
  Ours: the reference's list with a key laid at its place (pure).
-/
import Derived.Test.YtfdehlfhnlgcjaaDoorTqIt
namespace Go.Proofs.YtfdehlfhnlgcjaaDoor
open Go.RowKit TqM

namespace TqM
def ins (t : Ky × Int) : List (Ky × Int) → List (Ky × Int)
  | [] => [t]
  | x :: r => if lt t.1 x.1 then t :: x :: r else x :: ins t r
theorem ins_none (t : Ky × Int) : ∀ A : List (Ky × Int), (∀ x ∈ A, ¬ lt t.1 x.1) → ins t A = A ++ [t]
  | [], _ => rfl
  | x :: r, h => by
    rw [ins, if_neg (h x (by simp)), ins_none t r (fun y hy => h y (by simp [hy]))]
    rfl
theorem ins_some (t y : Ky × Int) : ∀ A : List (Ky × Int), (∃ x ∈ A, lt t.1 x.1) → ins t (A ++ [y]) = ins t A ++ [y]
  | [], h => by simp at h
  | x :: r, h => by
    by_cases hx : lt t.1 x.1
    · simp [ins, if_pos hx]
    · rw [List.cons_append, ins, if_neg hx, ins, if_neg hx, ins_some t y r ?_]
      · rfl
      · obtain ⟨z, hz, h⟩ := h
        rcases List.mem_cons.1 hz with rfl | hz
        · exact absurd h hx
        · exact ⟨z, hz, h⟩
theorem ins_new (t y : Ky × Int) (hy : lt t.1 y.1) : ∀ A : List (Ky × Int), (∀ x ∈ A, ¬ lt t.1 x.1) → ins t (A ++ [y]) = A ++ [t] ++ [y]
  | [], _ => by simp [ins, if_pos hy]
  | x :: r, h => by
    rw [List.cons_append, ins, if_neg (h x (by simp)), ins_new t y hy r (fun y hy => h y (by simp [hy]))]
    rfl
theorem ins_perm (t : Ky × Int) : ∀ A : List (Ky × Int), (ins t A).Perm (t :: A)
  | [] => .refl _
  | x :: r => by
    by_cases hx : lt t.1 x.1
    · rw [ins, if_pos hx]
    · rw [ins, if_neg hx]
      exact ((ins_perm t r).cons x).trans (List.Perm.swap _ _ _)
theorem ins_len (t : Ky × Int) (A : List (Ky × Int)) : (ins t A).length = A.length + 1 := by rw [(ins_perm t A).length_eq]; rfl
/-- In the order of keys, no key twice. -/
def Sd (G : List (Ky × Int)) : Prop := G.Pairwise (fun a b => lt a.1 b.1)
theorem Sd.srt {G : List (Ky × Int)} (h : Sd G) : Srt (G.map (·.1)) := List.pairwise_map.2 h
theorem Sd.nodup {G : List (Ky × Int)} (h : Sd G) : (G.map (·.1)).Nodup := h.srt.imp (fun h => lt_ne h)
theorem Sd.filter {G : List (Ky × Int)} (h : Sd G) (p : Ky × Int → Bool) : Sd (G.filter p) := List.Pairwise.filter _ h
theorem ins_sd {t : Ky × Int} : ∀ {G : List (Ky × Int)}, Sd G → t.1 ∉ G.map (·.1) → Sd (ins t G)
  | [], _, _ => List.pairwise_singleton _ _
  | x :: r, h, hn => by
    have h1 := List.pairwise_cons.1 h
    have hx : t.1 ≠ x.1 := fun e => hn (by simp [e])
    by_cases hl : lt t.1 x.1
    · rw [ins, if_pos hl]
      refine List.pairwise_cons.2 ⟨fun y hy => ?_, h⟩
      rcases List.mem_cons.1 hy with rfl | hy
      · exact hl
      · exact lt_trans hl (h1.1 y hy)
    · rw [ins, if_neg hl]
      refine List.pairwise_cons.2 ⟨fun y hy => ?_, ins_sd h1.2 (fun hm => hn (by simp at hm ⊢; exact .inr hm))⟩
      rcases List.mem_cons.1 ((ins_perm t r).mem_iff.1 hy) with rfl | hy
      · exact (lt_or _ _ hx).resolve_left hl
      · exact h1.1 y hy
/-- The list so far. -/
def WI (t : Ky × Int) (G : List (Ky × Int)) (i : Nat) (b : Bool) (A : List (Ky × Int)) : Prop :=
  if b then A = ins t (G.take i) ∧ ∃ x ∈ G.take i, lt t.1 x.1 else A = G.take i ∧ ∀ x ∈ G.take i, ¬ lt t.1 x.1
theorem WI.start (t : Ky × Int) (G : List (Ky × Int)) : WI t G 0 false [] := by simp [WI]
theorem WI.lay {t : Ky × Int} {G : List (Ky × Int)} {i : Nat} {A : List (Ky × Int)} (h : WI t G i false A) (hi : i < G.length) (hl : lt t.1 (gN G i).1) : WI t G (i + 1) true (A ++ [t] ++ [gN G i]) := by
  obtain ⟨rfl, h2⟩ : A = G.take i ∧ ∀ x ∈ G.take i, ¬ lt t.1 x.1 := by simpa [WI] using h
  show _ ∧ _
  rw [take_gN hi]
  exact ⟨(ins_new t _ hl _ h2).symm, gN G i, by simp, hl⟩
theorem WI.skip {t : Ky × Int} {G : List (Ky × Int)} {i : Nat} {A : List (Ky × Int)} (h : WI t G i false A) (hi : i < G.length) (hl : ¬ lt t.1 (gN G i).1) : WI t G (i + 1) false (A ++ [gN G i]) := by
  obtain ⟨rfl, h2⟩ : A = G.take i ∧ ∀ x ∈ G.take i, ¬ lt t.1 x.1 := by simpa [WI] using h
  show _ ∧ _
  rw [take_gN hi]
  refine ⟨rfl, fun x hx => ?_⟩
  rcases List.mem_append.1 hx with hx | hx
  · exact h2 x hx
  · obtain rfl : x = gN G i := by simpa using hx
    exact hl
theorem WI.on {t : Ky × Int} {G : List (Ky × Int)} {i : Nat} {A : List (Ky × Int)} (h : WI t G i true A) (hi : i < G.length) : WI t G (i + 1) true (A ++ [gN G i]) := by
  obtain ⟨rfl, h2⟩ : A = ins t (G.take i) ∧ ∃ x ∈ G.take i, lt t.1 x.1 := by simpa [WI] using h
  show _ ∧ _
  rw [take_gN hi, ins_some t _ _ h2]
  obtain ⟨x, hx, h3⟩ := h2
  exact ⟨rfl, x, List.mem_append.2 (.inl hx), h3⟩
theorem WI.endF {t : Ky × Int} {G A : List (Ky × Int)} {n : Nat} (hn : G.length = n) (h : WI t G n false A) : A ++ [t] = ins t G := by
  obtain ⟨rfl, h2⟩ : A = G.take n ∧ ∀ x ∈ G.take n, ¬ lt t.1 x.1 := by simpa [WI] using h
  rw [List.take_of_length_le (by omega)] at h2 ⊢
  exact (ins_none t G h2).symm
theorem WI.endT {t : Ky × Int} {G A : List (Ky × Int)} {n : Nat} (hn : G.length = n) (h : WI t G n true A) : A = ins t G := by
  obtain ⟨rfl, h2⟩ : A = ins t (G.take n) ∧ ∃ x ∈ G.take n, lt t.1 x.1 := by simpa [WI] using h
  rw [List.take_of_length_le (by omega)]
theorem WI.len {t : Ky × Int} {G A : List (Ky × Int)} {i : Nat} {b : Bool} (h : WI t G i b A) : A.length ≤ i + 1 := by
  cases b
  · obtain ⟨rfl, h2⟩ : A = G.take i ∧ ∀ x ∈ G.take i, ¬ lt t.1 x.1 := by simpa [WI] using h
    simp; omega
  · obtain ⟨rfl, h2⟩ : A = ins t (G.take i) ∧ ∃ x ∈ G.take i, lt t.1 x.1 := by simpa [WI] using h
    rw [ins_len]; simp; omega
end TqM
end Go.Proofs.YtfdehlfhnlgcjaaDoor
