/-
  Ours: frame.Join; the statements' helpers size, fits, twin.
-/
import Derived.Test.YtcmfehabcklbpaaDoorFrmLaw2
import Derived.Test.YtcmfehabcklbpaaDoorFrmEnc
namespace Go.Proofs.YtcmfehabcklbpaaDoor
open Go.RowKit

/-- Payloads that came in. -/
structure Sml (cs : List (List Nat)) : Prop where
  cnt : cs.length ≤ 1048576
  len : ∀ c ∈ cs, c.length ≤ 1048576
  byt : ∀ c ∈ cs, ∀ b ∈ c, b < 256
theorem Sml.lenD {cs : List (List Nat)} (h : Sml cs) (i : Nat) : (cs.getD i []).length ≤ 1048576 := by
  rw [List.getD_eq_getElem?_getD]
  cases e : cs[i]? with
  | none => simp
  | some y => exact h.len y (List.mem_of_getElem? e)
theorem Sml.bytD {cs : List (List Nat)} (h : Sml cs) (i : Nat) : ∀ b ∈ cs.getD i [], b < 256 := by
  rw [List.getD_eq_getElem?_getD]
  cases e : cs[i]? with
  | none => intro b hb; cases hb
  | some y => exact h.byt y (List.mem_of_getElem? e)
theorem take_next {α : Type} (cs : List (List α)) (k : Nat) (h : k < cs.length) : cs.take (k + 1) = cs.take k ++ [cs.getD k []] := by
  rw [List.take_add_one, List.getD_eq_getElem?_getD, List.getElem?_eq_getElem h]; rfl
theorem join_snoc (ps : List (List Nat)) (p : List Nat) : CrcM.join (ps ++ [p]) = CrcM.join ps ++ CrcM.enc p := by unfold CrcM.join; simp
theorem join_nil : CrcM.join [] = [] := by unfold CrcM.join; rfl
theorem sizeL_snoc (ps : List (List Nat)) (p : List Nat) : CrcM.sizeL (ps ++ [p]) = CrcM.sizeL ps + p.length + 8 := by
  unfold CrcM.sizeL; rw [join_snoc, List.length_append, CrcM.enc_len]; omega
theorem sizeL_take_le : ∀ (ps : List (List Nat)) (k : Nat), CrcM.sizeL (ps.take k) ≤ CrcM.sizeL ps
  | [], k => by simp
  | p :: ps, 0 => by simp [CrcM.sizeL_nil]
  | p :: ps, k + 1 => by have := sizeL_take_le ps k; rw [List.take_succ_cons, CrcM.sizeL_cons, CrcM.sizeL_cons]; omega
theorem Sml.size {cs : List (List Nat)} (h : Sml cs) : CrcM.sizeL cs ≤ cs.length * 1048584 := by
  have H : ∀ l : List (List Nat), (∀ c ∈ l, c.length ≤ 1048576) → CrcM.sizeL l ≤ l.length * 1048584 := by
    intro l
    induction l with
    | nil => intro _; rw [CrcM.sizeL_nil]; omega
    | cons p l ih =>
      intro hl
      have h1 := ih (fun c hc => hl c (by simp [hc]))
      have h2 := hl p (by simp)
      rw [CrcM.sizeL_cons, List.length_cons, Nat.add_mul]
      omega
  exact H cs h.len

theorem zip_mem {α β : Type} {vs : List α} {ps : List β} (hl : vs.length = ps.length) {y : α} (hy : y ∈ vs) : ∃ q, (y, q) ∈ vs.zip ps := by
  obtain ⟨i, hi, e⟩ := List.getElem_of_mem hy
  have : (vs.zip ps)[i]? = some (vs[i], ps[i]) := by rw [List.getElem?_zip_eq_some]; exact ⟨List.getElem?_eq_getElem _, List.getElem?_eq_getElem _⟩
  exact ⟨ps[i], by rw [← e]; exact List.mem_of_getElem? this⟩
/-- One row more. -/
theorem RowsV.push {base : Nat} {w1 w2 : World} {v v' x : Value} {vs : List Value} {ps : List (List Nat)} {p : List Nat} (hv : RowV 22 base w1 v vs) (hl : vs.length = ps.length) (hi : ∀ y ∈ vs.zip ps, RowB 5 base w1 y.1 y.2)
    (hp : vs.Pairwise (fun a b => ∀ g, a.ownBlock = some g → b.ownBlock ≠ some g)) (hx : RowB 5 base w1 x p) (ha : ∀ y ∈ vs, ∀ g, y.ownBlock = some g → x.ownBlock ≠ some g) (r : RowV 22 base w2 v' (vs ++ [x])) (g : w1.grownBy w2 v.ownBlock) : RowsV base w2 v' (ps ++ [p]) := by
  have keep : ∀ {y : Value} {q : List Nat}, RowB 5 base w1 y q → RowB 5 base w2 y q := fun hy => RowV.kept hy g (fun g' hg e => rows_ne hy hv (by decide) hg e)
  refine ⟨vs ++ [x], r, by simp [hl], fun y hy => ?_, ?_⟩
  · rw [List.zip_append hl] at hy
    rcases List.mem_append.1 hy with h | h
    · exact keep (hi y h)
    · simp at h; subst h; exact keep hx
  · rw [List.pairwise_append]
    refine ⟨hp, List.pairwise_singleton _ _, fun y hy z hz => ?_⟩
    simp at hz; subst hz
    exact ha y hy

end Go.Proofs.YtcmfehabcklbpaaDoor
