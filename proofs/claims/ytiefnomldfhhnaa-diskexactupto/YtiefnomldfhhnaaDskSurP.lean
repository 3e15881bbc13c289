/-
  Ours: what a step may do to a disk's files, as data.
-/
import Derived.Test.YtiefnomldfhhnaaDskPure
namespace Go.Proofs.Ytiefnomldfhhnaa

def survA (t : Dk) (o : OpD) (f : Int) : List Nat := if f = o.file ∧ (o.kind = 1 ∨ o.kind = 2) then t.fb f ++ handedL o else t.fb f
def survR (t : Dk) (o : OpD) (f : Int) : List Nat := if f = o.file then (if o.kind = 1 ∨ o.kind = 2 then t.fb f ++ handedL o else if o.kind = 4 then (t.fb f).take o.a.toNat else t.fb f) else t.fb f
def survD (t : Dk) (o : OpD) (f : Int) : List Nat := if f = o.file then (if o.kind = 3 then t.fb f else if o.kind = 4 then (t.fb f).take o.a.toNat else (t.fb f).take (t.fd f)) else (t.fb f).take (t.fd f)

theorem write_split (t : Dk) : (t.write.2 = 0 ∧ (∀ f, t.write.1.fb f = t.fb f ∧ t.write.1.fd f = t.fd f) ∧ t.write.1.dn = t.dn) ∨
    (t.write.2 = 51 ∧ t.write.1.dn = true ∧ ∃ k, ∀ f, t.write.1.fb f = (t.fb f).take (left (t.fb f) (t.fd f) k) ∧ t.write.1.fd f = left (t.fb f) (t.fd f) k) := by
  cases hq : t.q with
  | nil => rw [Dk.write_nil hq]; exact .inl ⟨rfl, fun f => ⟨rfl, rfl⟩, rfl⟩
  | cons c q =>
    rw [Dk.write_cons hq]
    split
    · exact .inl ⟨rfl, fun f => ⟨rfl, rfl⟩, rfl⟩
    · refine .inr ⟨rfl, rfl, c.2.toNat, fun f => ?_⟩
      unfold Dk.fb Dk.fd
      split <;> exact ⟨rfl, rfl⟩
theorem put_fb (t : Dk) {n f : Int} (hf : f = 0 ∨ f = 1) (hn : n = 0 ∨ n = 1) (b : List Nat) (d : Nat) : (t.put n b d).fb f = (if f = n then b else t.fb f) ∧ (t.put n b d).fd f = (if f = n then d else t.fd f) := by
  unfold Dk.put Dk.fb Dk.fd
  rcases hf with rfl | rfl <;> rcases hn with rfl | rfl <;> simp
theorem ok_fd {t : Dk} (ok : t.Ok) (f : Int) : t.fd f ≤ (t.fb f).length := by
  unfold Dk.fb Dk.fd; split
  · exact ok.d0
  · exact ok.d1
theorem pre_take {xs ys : List Nat} {d n : Nat} (h2 : d ≤ n) : xs.take d <+: (xs ++ ys).take n := by
  rw [List.take_append]
  refine List.IsPrefix.trans ?_ (List.prefix_append _ _)
  exact List.take_prefix_take_left h2
theorem no_zero {t : Dk} {n : Int} (h : ¬ t.no n ≠ 0) : (n = 0 ∨ n = 1) ∧ t.dn = false := by
  rcases t.no_cases n with h1 | h1 | h1
  · exact absurd h1 h
  · exact ⟨.inl h1.1, h1.2⟩
  · exact ⟨.inr h1.1, h1.2⟩
theorem no_val {t : Dk} {n : Int} (h : t.no n ≠ 0) : t.no n = 50 ∨ (t.no n = 51 ∧ t.dn = true) := by
  unfold Dk.no at h ⊢
  split
  · rename_i hn
    rw [if_pos hn] at h
    split
    · rename_i hd; exact .inr ⟨rfl, hd⟩
    · rename_i hd; rw [if_neg hd] at h; exact absurd rfl h
  · exact .inl rfl

structure SurFell (t : Dk) (o : OpD) (t' : Dk) (e : Int) : Prop where
  up : t.dn = false
  dn : t'.dn = true
  e : e = 51
  k : 1 ≤ o.kind ∧ o.kind ≤ 4
  f : ∀ f, f = 0 ∨ f = 1 → (t.fb f).take (t.fd f) <+: (t'.fb f).take (t'.fd f) ∧ (t'.fb f).take (t'.fd f) <+: survA t o f
structure SurWrote (t : Dk) (o : OpD) (t' : Dk) (e : Int) : Prop where
  up : t.dn = false
  dn : t'.dn = false
  e : e = 0
  k : 1 ≤ o.kind ∧ o.kind ≤ 4
  file : o.file = 0 ∨ o.file = 1
  a : o.kind = 4 → 0 ≤ o.a ∧ o.a ≤ (t.fb o.file).length
  f : ∀ f, f = 0 ∨ f = 1 → t'.fb f = survR t o f ∧ (t'.fb f).take (t'.fd f) = survD t o f
structure SurRest (t : Dk) (o : OpD) (t' : Dk) (e : Int) : Prop where
  dn : t.dn = false → t'.dn = false
  e : e = 0 → ¬ (1 ≤ o.kind ∧ o.kind ≤ 4)
  f : ∀ f, f = 0 ∨ f = 1 → (t'.fb f).take (t'.fd f) = (t.fb f).take (t.fd f) ∧ (t.dn = false → t'.fb f = t.fb f) ∧ (t.dn = true → t'.dn = false → o.kind = 9 ∧ t'.fb f = (t'.fb f).take (t'.fd f))

theorem sur_same {t : Dk} {o : OpD} {e : Int} (he : e = 0 → ¬ (1 ≤ o.kind ∧ o.kind ≤ 4)) : SurRest t o t e :=
  ⟨id, he, fun _ _ => ⟨rfl, fun _ => rfl, fun h1 h2 => by rw [h1] at h2; cases h2⟩⟩

theorem sur_append {t : Dk} (ok : t.Ok) (o : OpD) (hk : o.kind = 1 ∨ o.kind = 2) :
    SurFell t o (t.append o.file (handedL o)).1 (t.append o.file (handedL o)).2 ∨ SurWrote t o (t.append o.file (handedL o)).1 (t.append o.file (handedL o)).2 ∨ SurRest t o (t.append o.file (handedL o)).1 (t.append o.file (handedL o)).2 := by
  unfold Dk.append
  split
  · rename_i h; exact .inr (.inr (sur_same fun h0 => absurd h0 h))
  · rename_i h
    obtain ⟨hf, hd⟩ := no_zero h
    split
    · exact .inr (.inr (sur_same fun h0 => by cases h0))
    · have pd := put_dn t o.file (t.fb o.file ++ handedL o) (t.fd o.file)
      have pf := fun f hx => put_fb t (n := o.file) (f := f) hx hf (t.fb o.file ++ handedL o) (t.fd o.file)
      generalize t.put o.file (t.fb o.file ++ handedL o) (t.fd o.file) = p at *
      rcases write_split p with ⟨w1, w2, w3⟩ | ⟨w1, w2, k, w3⟩
      · refine .inr (.inl ⟨hd, by rw [w3, pd.1, hd], w1, by omega, hf, fun h4 => by omega, fun f hx => ?_⟩)
        rw [(w2 f).1, (w2 f).2, (pf f hx).1, (pf f hx).2]
        unfold survR survD
        by_cases he : f = o.file
        · subst he
          simp only [if_true, hk]
          refine ⟨trivial, ?_⟩
          rw [if_neg (by omega), if_neg (by omega)]
          rw [List.take_append_of_le_length (ok_fd ok _)]
        · simp only [if_neg he]; exact ⟨trivial, trivial⟩
      · refine .inl ⟨hd, w2, w1, by omega, fun f hx => ?_⟩
        rw [(w3 f).1, (w3 f).2, (pf f hx).1, (pf f hx).2]
        unfold survA
        rw [List.take_take, Nat.min_self]
        by_cases he : f = o.file
        · subst he
          simp only [if_true, hk, and_self]
          exact ⟨pre_take (by unfold left; omega), List.take_prefix _ _⟩
        · rw [if_neg he, if_neg he, if_neg (fun h => he h.1)]
          exact ⟨List.take_prefix_take_left (by unfold left; omega), List.take_prefix _ _⟩

theorem sur_sync {t : Dk} (_ok : t.Ok) (o : OpD) (hk : o.kind = 3) :
    SurFell t o (t.sync o.file).1 (t.sync o.file).2 ∨ SurWrote t o (t.sync o.file).1 (t.sync o.file).2 ∨ SurRest t o (t.sync o.file).1 (t.sync o.file).2 := by
  unfold Dk.sync
  split
  · rename_i h; exact .inr (.inr (sur_same fun h0 => absurd h0 h))
  · rename_i h
    obtain ⟨hf, hd⟩ := no_zero h
    rcases write_split t with ⟨w1, w2, w3⟩ | ⟨w1, w2, k, w3⟩
    · rw [if_neg (by rw [w1]; simp)]
      have pd := put_dn t.write.1 o.file (t.write.1.fb o.file) (t.write.1.fb o.file).length
      have pf := fun f hx => put_fb t.write.1 (n := o.file) (f := f) hx hf (t.write.1.fb o.file) (t.write.1.fb o.file).length
      refine .inr (.inl ⟨hd, by rw [pd.1, w3, hd], rfl, by omega, hf, fun h4 => by omega, fun f hx => ?_⟩)
      simp only
      rw [(pf f hx).1, (pf f hx).2, (w2 f).1, (w2 f).2, (w2 o.file).1]
      unfold survR survD
      by_cases he : f = o.file
      · subst he
        simp only [if_true, hk]
        simp
      · simp only [if_neg he]; exact ⟨trivial, trivial⟩
    · rw [if_pos (by rw [w1]; simp)]
      refine .inl ⟨hd, w2, w1, by omega, fun f hx => ?_⟩
      rw [(w3 f).1, (w3 f).2, List.take_take, Nat.min_self]
      unfold survA
      rw [if_neg (by omega)]
      exact ⟨List.take_prefix_take_left (by unfold left; omega), List.take_prefix _ _⟩

theorem sur_trunc {t : Dk} (_ok : t.Ok) (o : OpD) (hk : o.kind = 4) :
    SurFell t o (t.trunc o.file o.a).1 (t.trunc o.file o.a).2 ∨ SurWrote t o (t.trunc o.file o.a).1 (t.trunc o.file o.a).2 ∨ SurRest t o (t.trunc o.file o.a).1 (t.trunc o.file o.a).2 := by
  unfold Dk.trunc
  split
  · rename_i h; exact .inr (.inr (sur_same fun h0 => absurd h0 h))
  · rename_i h
    obtain ⟨hf, hd⟩ := no_zero h
    split
    · exact .inr (.inr (sur_same fun h0 => by cases h0))
    · rename_i hr
      rcases write_split t with ⟨w1, w2, w3⟩ | ⟨w1, w2, k, w3⟩
      · rw [if_neg (by rw [w1]; simp)]
        have pd := put_dn t.write.1 o.file ((t.write.1.fb o.file).take o.a.toNat) o.a.toNat
        have pf := fun f hx => put_fb t.write.1 (n := o.file) (f := f) hx hf ((t.write.1.fb o.file).take o.a.toNat) o.a.toNat
        refine .inr (.inl ⟨hd, by rw [pd.1, w3, hd], rfl, by omega, hf, fun h4 => by omega, fun f hx => ?_⟩)
        simp only
        rw [(pf f hx).1, (pf f hx).2, (w2 f).1, (w2 f).2, (w2 o.file).1]
        unfold survR survD
        by_cases he : f = o.file
        · subst he
          simp only [if_true, hk]
          simp [List.take_take]
        · simp only [if_neg he]; exact ⟨trivial, trivial⟩
      · rw [if_pos (by rw [w1]; simp)]
        refine .inl ⟨hd, w2, w1, by omega, fun f hx => ?_⟩
        rw [(w3 f).1, (w3 f).2, List.take_take, Nat.min_self]
        unfold survA
        rw [if_neg (by omega)]
        exact ⟨List.take_prefix_take_left (by unfold left; omega), List.take_prefix _ _⟩

theorem sur_done {t : Dk} (ok : t.Ok) (inv : t.Inv) (o : OpD) : SurFell t o (t.done o).1 (t.done o).2 ∨ SurWrote t o (t.done o).1 (t.done o).2 ∨ SurRest t o (t.done o).1 (t.done o).2 := by
  unfold Dk.done
  split
  · rename_i h; exact sur_append ok o h
  · split
    · rename_i h; exact sur_sync ok o h
    · split
      · rename_i h; exact sur_trunc ok o h
      · refine .inr (.inr ?_)
        rename_i k1 k3 k4
        have hk : ¬ (1 ≤ o.kind ∧ o.kind ≤ 4) := by omega
        split
        · unfold Dk.arm; split
          · exact sur_same fun _ => hk
          · split
            · exact sur_same fun _ => hk
            · exact ⟨id, fun _ => hk, fun _ _ => ⟨rfl, fun _ => rfl, fun h1 h2 => by rw [show ({ t with q := t.q ++ [(o.a, o.b)] } : Dk).dn = t.dn from rfl, h1] at h2; cases h2⟩⟩
        · split
          · exact ⟨id, fun _ => hk, fun _ _ => ⟨rfl, fun _ => rfl, fun h1 h2 => by rw [show ({ t with q := [] } : Dk).dn = t.dn from rfl, h1] at h2; cases h2⟩⟩
          · split
            · rename_i k9
              unfold Dk.restart; split
              · rename_i hdn
                refine ⟨fun _ => rfl, fun _ => hk, fun f hf => ⟨rfl, fun _ => rfl, fun _ _ => ⟨k9, ?_⟩⟩⟩
                have hi := inv hdn
                symm
                apply List.take_of_length_le
                unfold Dk.fb Dk.fd
                split
                · exact Nat.le_of_eq hi.1.symm
                · exact Nat.le_of_eq hi.2.symm
              · exact sur_same fun _ => hk
            · exact sur_same fun _ => hk
end Go.Proofs.Ytiefnomldfhhnaa
