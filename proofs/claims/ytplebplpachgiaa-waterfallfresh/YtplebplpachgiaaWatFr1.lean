/-
  Ours: several rows of entries of one's own, apart from each other.
-/
import Derived.Test.YtplebplpachgiaaWatFr0
namespace Go.Proofs.Ytplebplpachgiaa
open Go.RowKit LedM WatM

theorem RowE.put {base : Nat} {w : World} {v : Value} {es : List Ent} (h : RowE base w v es) {k : Nat} (hk : k < es.length) : ∃ g cap zs, v = .slice (some ⟨g, 0, none⟩) es.length cap ∧ Blk g 35 zs w ∧ k * 3 + 3 ≤ zs.length ∧ ∀ w' x, Blk g 35 (zs.take (k * 3) ++ entL x ++ zs.drop (k * 3 + 3)) w' → RowE base w' v (es.set k x) := by
  rcases h.2 with ⟨hv, h0⟩ | ⟨g, cap, cur, rfl, hb, hg, hn, hm, hcs, htk⟩
  · omega
  · have hlen : cur.toList.length = cap * 3 := by rw [Array.length_toList]; exact hcs
    refine ⟨g, cap, cur.toList, rfl, by unfold Blk; rw [hg], by omega, fun w' x hb' => ⟨enL_len _, .inr ⟨g, cap, _, by rw [List.length_set], hb, hb', by rw [List.length_set]; exact hn, hm, ?_, ?_⟩⟩⟩
    · simp [entL]; omega
    · rw [List.length_set, ← enL_set es k x hk, ← htk]
      generalize cur.toList = zs at *
      have e1 : (zs.take (k * 3)).length = k * 3 := by rw [List.length_take]; omega
      have e2 : (zs.take (k * 3) ++ entL x).length = k * 3 + 3 := by rw [List.length_append, e1]; rfl
      have e3 : (zs.take (es.length * 3)).take (k * 3) = zs.take (k * 3) := by rw [List.take_take, Nat.min_eq_left (by omega)]
      have e4 : (zs.take (es.length * 3)).drop (k * 3 + 3) = (zs.drop (k * 3 + 3)).take (es.length * 3 - (k * 3 + 3)) := by rw [List.drop_take]
      rw [e3, e4]
      show List.take (es.length * 3) (zs.take (k * 3) ++ entL x ++ zs.drop (k * 3 + 3)) = _
      rw [List.take_append, e2, List.take_of_length_le (by rw [e2]; omega)]

structure FrS (w : World) (A B : List Value) (rs : List (Nat × Nat × Value × List Ent)) (w' : World) : Prop where
  bb : Below w.heap.size w w'
  ba : Blk w.heap.size 23 A w'
  b2 : Blk (w.heap.size + 1) 23 B w'
  rw : ∀ q ∈ rs, w.heap.size + 1 < q.1 ∧ q.1 ≤ q.2.1 ∧ q.2.1 ≤ w'.heap.size ∧ Rw q.1 q.2.1 w' q.2.2.1 q.2.2.2
  ap : ∀ (i j : Nat) q q', i < j → rs[i]? = some q → rs[j]? = some q' → q'.2.1 ≤ q.1
theorem FrS.at {w w1 : World} {A B : List Value} {rs : List (Nat × Nat × Value × List Ent)} (h : FrS w A B rs w1) (k : Nat) {q : Nat × Nat × Value × List Ent} (hq : rs[k]? = some q) : Rw q.1 q.2.1 w1 q.2.2.1 q.2.2.2 := (h.rw q (List.mem_of_getElem? hq)).2.2.2
theorem FrS.bd {w w1 : World} {A B : List Value} {rs : List (Nat × Nat × Value × List Ent)} (h : FrS w A B rs w1) (k : Nat) {q : Nat × Nat × Value × List Ent} (hq : rs[k]? = some q) : w.heap.size + 1 < q.1 ∧ q.1 ≤ q.2.1 ∧ q.2.1 ≤ w1.heap.size := by
  have := h.rw q (List.mem_of_getElem? hq)
  exact ⟨this.1, this.2.1, this.2.2.1⟩
theorem FrS.call {w w1 w2 : World} {A B : List Value} {rs : List (Nat × Nat × Value × List Ent)} (h : FrS w A B rs w1) (b : Below w1.heap.size w1 w2) : FrS w A B rs w2 :=
  ⟨below_trans h.bb b, h.ba.below b, h.b2.below b, fun q hq => ⟨(h.rw q hq).1, (h.rw q hq).2.1, Nat.le_trans (h.rw q hq).2.2.1 b.size, (h.rw q hq).2.2.2.call b⟩, h.ap⟩
theorem FrS.row {w w1 w2 : World} {A B : List Value} {rs : List (Nat × Nat × Value × List Ent)} (h : FrS w A B rs w1) {v : Value} {es : List Ent} (r : RowE w1.heap.size w2 v es) (b : Below w1.heap.size w1 w2) : FrS w A B ((w1.heap.size, w2.heap.size, v, es) :: rs) w2 := by
  have h2 := h.call b
  refine ⟨h2.bb, h2.ba, h2.b2, fun q hq => ?_, fun i j q q' hij hi hj => ?_⟩
  · rcases List.mem_cons.1 hq with rfl | hq
    · exact ⟨h.b2.lt, b.size, Nat.le_refl _, r, fun g hg => RowE.lt r hg⟩
    · exact h2.rw q hq
  · cases i with
    | zero =>
      cases j with
      | zero => omega
      | succ j =>
        cases hi
        exact (h.rw q' (List.mem_of_getElem? hj)).2.2.1
    | succ i =>
      cases j with
      | zero => omega
      | succ j => exact h.ap i j q q' (by omega) hi hj
theorem FrS.set {w w1 w2 : World} {A B : List Value} {rs : List (Nat × Nat × Value × List Ent)} (h : FrS w A B rs w1) (k : Nat) {lo hi : Nat} {v : Value} {es : List Ent} (hk : rs[k]? = some (lo, hi, v, es)) {es' : List Ent} (r : RowE lo w2 v es') (g : w1.grownBy w2 v.ownBlock) : FrS w A B (rs.set k (lo, hi, v, es')) w2 := by
  have h0 := h.rw _ (List.mem_of_getElem? hk)
  have hkl : k < rs.length := (List.getElem?_eq_some_iff.1 hk).1
  have near : ∀ b, v.ownBlock = some b → lo ≤ b ∧ b < hi := fun b hb => ⟨RowE.ge h0.2.2.2.row hb, h0.2.2.2.top b hb⟩
  refine ⟨h.bb.grown g h.bb.size (fun b hb => by have := near b hb; have := h0.1; omega), h.ba.grown g (fun e => by have := near _ e; have := h0.1; omega), h.b2.grown g (fun e => by have := near _ e; have := h0.1; omega), fun q hq => ?_, fun i j q q' hij hqi hqj => ?_⟩
  · obtain ⟨j, hj⟩ := List.getElem?_of_mem hq
    rw [List.getElem?_set] at hj
    split at hj
    · cases hj
      exact ⟨h0.1, h0.2.1, Nat.le_trans h0.2.2.1 g.size, r, h0.2.2.2.top⟩
    · rename_i hne
      have hq2 := h.rw q (List.mem_of_getElem? hj)
      refine ⟨hq2.1, hq2.2.1, Nat.le_trans hq2.2.2.1 g.size, hq2.2.2.2.kept g (fun b hb => ?_)⟩
      have n := near b hb
      rcases Nat.lt_or_gt_of_ne hne with hlt | hgt
      · have := h.ap k j _ _ hlt hk hj
        simp only at this
        omega
      · have := h.ap j k _ _ hgt hj hk
        simp only at this
        omega
  · have key : ∀ (i : Nat) q, (rs.set k (lo, hi, v, es'))[i]? = some q → ∃ q0, rs[i]? = some q0 ∧ q0.1 = q.1 ∧ q0.2.1 = q.2.1 := fun i q hq => by
      rw [List.getElem?_set] at hq
      split at hq
      · rename_i e
        cases hq
        exact ⟨(lo, hi, v, es), e ▸ hk, rfl, rfl⟩
      · exact ⟨q, hq, rfl, rfl⟩
    obtain ⟨a, a1, a2, a3⟩ := key i q hqi
    obtain ⟨b, b1, b2, b3⟩ := key j q' hqj
    have := h.ap i j a b hij a1 b1
    omega
/-- The first k entries filled. -/
def filE (es : List Ent) (x : Ent) (k : Nat) : List Ent := List.replicate k x ++ es.drop k
theorem filE_len (es : List Ent) (x : Ent) (k : Nat) (h : k ≤ es.length) : (filE es x k).length = es.length := by unfold filE; simp; omega
theorem filE_set {es : List Ent} {x : Ent} {k : Nat} (h : k < es.length) : (filE es x k).set k x = filE es x (k + 1) := by
  unfold filE
  rw [List.set_append_right _ _ (by simp), List.length_replicate, Nat.sub_self, drop_eN h, List.set_cons_zero, List.replicate_succ', List.append_assoc]
  rfl
theorem filE_all (es : List Ent) (x : Ent) : filE es x es.length = List.replicate es.length x := by unfold filE; rw [List.drop_length]; simp
theorem eN_rep {n k : Nat} {x : Ent} (h : k < n) : eN (List.replicate n x) k = x := by
  unfold eN
  rw [List.getD_eq_getElem?_getD, List.getElem?_replicate, if_pos h]; rfl
end Go.Proofs.Ytplebplpachgiaa
