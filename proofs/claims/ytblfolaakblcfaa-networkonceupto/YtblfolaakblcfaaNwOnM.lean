/-
  Ours: at most once (pure).
-/
import Derived.Test.YtblfolaakblcfaaNwCalM
namespace Go.Proofs.Ytblfolaakblcfaa
open Go.RowKit NwM
namespace NwM
/-- Each number once; an acknowledgement on its way is of one that was accepted. -/
structure On (t : Nt) : Prop where
  nd : (t.ac.map (·.id)).Nodup
  ak : ∀ r ∈ t.fl, ∀ p ∈ r, p.ack = true → ∃ a ∈ t.ac, a.id = p.id
theorem On.nt0 : On NwM.nt0 := by
  refine ⟨List.nodup_nil, fun r hr p hp => ?_⟩
  have : r = [] := by simpa [NwM.nt0] using hr
  rw [this] at hp
  cases hp
theorem On.hand {t : Nt} (h : On t) {p : Pk} (hp : p.ack = true → ∃ a ∈ t.ac, a.id = p.id) : On (hand t p) := by
  refine ⟨by rw [hand_ac]; exact h.nd, fun r hr q hq ha => ?_⟩
  rw [hand_ac]
  rcases hand_mem hr hq with ⟨r', h1, h2⟩ | rfl
  · exact h.ak r' h1 q h2 ha
  · exact hp ha
theorem On.taken {t : Nt} (h : On t) (a : Ac) : On (taken t a) := by
  refine ⟨?_, fun r hr p hp ha => ?_⟩
  · unfold NwM.taken
    split
    · exact h.nd
    · rename_i hk
      show ((t.ac ++ [a]).map (·.id)).Nodup
      rw [List.map_append, List.nodup_append]
      refine ⟨h.nd, by simp, fun x hx y hy => ?_⟩
      simp at hy
      subst hy
      rintro rfl
      exact hk ((known_iff t a.id).2 hx)
  · rw [taken_fl] at hr
    obtain ⟨b, hb, e⟩ := h.ak r hr p hp ha
    exact ⟨b, taken_sub t a b hb, e⟩
theorem On.arr1 {s : Nt × List Int} (h : On s.1) (p : Pk) : On (NwM.arr1 s p).1 := by
  unfold NwM.arr1
  split
  · exact h
  · exact (h.taken (accA p s.1.now)).hand (fun _ => taken_has s.1 (accA p s.1.now))
theorem On.fold : ∀ (ps : List Pk) (s : Nt × List Int), On s.1 → On (ps.foldl NwM.arr1 s).1
  | [], _, h => h
  | p :: ps, _, h => On.fold ps _ (h.arr1 p)
theorem On.tick {t : Nt} (h : On t) : On (tick t).1 := by
  refine On.fold _ _ ⟨h.nd, fun r hr p hp => ?_⟩
  obtain ⟨r', h1, h2⟩ := beg_mem hr hp
  exact h.ak r' h1 p h2
theorem On.play {t t' : Nt} {o : OpN} {ids : List Int} (h : On t) (p : Play t o t' ids) : On t' := by
  cases p with
  | fate =>
    obtain ⟨e1, e2, e3⟩ := fateT_fl t o.lt
    exact ⟨by rw [e2]; exact h.nd, by rw [e1, e2]; exact h.ak⟩
  | calm => exact ⟨h.nd, h.ak⟩
  | send _ q ha => exact h.hand (fun hq => by rw [ha] at hq; cases hq)
  | tick => exact h.tick
  | none => exact h
/-! What is accepted is added behind. -/
theorem taken_ext (t : Nt) (a : Ac) : ∃ new, (taken t a).ac = t.ac ++ new ∧ ∀ b ∈ new, b.tk = a.tk := by
  unfold taken
  split
  · exact ⟨[], by simp, by simp⟩
  · exact ⟨[a], rfl, by simp⟩
theorem arr1_ext (s : Nt × List Int) (p : Pk) : ∃ new, (arr1 s p).1.ac = s.1.ac ++ new ∧ ∀ b ∈ new, b.tk = ((s.1.now : Nat) : Int) := by
  unfold arr1
  split
  · exact ⟨[], by simp, by simp⟩
  · obtain ⟨new, h1, h2⟩ := taken_ext s.1 (accA p s.1.now)
    exact ⟨new, by show (hand _ _).ac = _; rw [hand_ac]; exact h1, h2⟩
theorem fold_ext : ∀ (ps : List Pk) (s : Nt × List Int), ∃ new, (ps.foldl arr1 s).1.ac = s.1.ac ++ new ∧ ∀ b ∈ new, b.tk = ((s.1.now : Nat) : Int)
  | [], s => ⟨[], by simp, by simp⟩
  | p :: ps, s => by
    obtain ⟨n1, h1, h2⟩ := arr1_ext s p
    obtain ⟨n2, h3, h4⟩ := fold_ext ps (arr1 s p)
    refine ⟨n1 ++ n2, by rw [List.foldl_cons, h3, h1, List.append_assoc], fun b hb => ?_⟩
    rcases List.mem_append.1 hb with hb | hb
    · exact h2 b hb
    · rw [h4 b hb, arr1_now]
theorem play_ext {t t' : Nt} {o : OpN} {ids : List Int} (p : Play t o t' ids) : ∃ new, t'.ac = t.ac ++ new ∧ (o.kind ≠ 4 → new = []) ∧ ∀ b ∈ new, b.tk = ((t'.now : Nat) : Int) := by
  cases p with
  | fate => exact ⟨[], by rw [(fateT_fl t o.lt).2.1]; simp, fun _ => rfl, by simp⟩
  | calm => exact ⟨[], by simp [NwM.calm], fun _ => rfl, by simp⟩
  | send _ q => exact ⟨[], by rw [hand_ac]; simp, fun _ => rfl, by simp⟩
  | tick hk =>
    obtain ⟨new, h1, h2⟩ := fold_ext (arrs t) (beg t, [])
    exact ⟨new, h1, fun h => absurd hk h, fun b hb => by rw [tick_now]; exact h2 b hb⟩
  | none => exact ⟨[], by simp, fun _ => rfl, by simp⟩
theorem fold_from : ∀ (ps : List Pk) (s : Nt × List Int) (i : Int), i ∈ (ps.foldl arr1 s).2 → i ∈ s.2 ∨ ∃ p ∈ ps, p.ack = true ∧ p.id = i
  | [], _, _, h => .inl h
  | p :: ps, s, i, h => by
    rcases fold_from ps (arr1 s p) i h with h1 | ⟨q, hq, h2⟩
    · unfold arr1 at h1
      split at h1
      · rename_i ha
        rcases List.mem_append.1 h1 with h1 | h1
        · exact .inl h1
        · exact .inr ⟨p, by simp, ha, (List.mem_singleton.1 h1).symm⟩
      · exact .inl h1
    · exact .inr ⟨q, by simp [hq], h2⟩
/-- Every number that is told was accepted, at an earlier tick. -/
theorem play_told {t t' : Nt} {o : OpN} {ids : List Int} (p : Play t o t' ids) (h : On t) (hk : Tk t) (i : Int) (hi : i ∈ ids) : 1 ≤ accT t.ac i ∧ accT t.ac i < ((t'.now : Nat) : Int) := by
  cases p with
  | fate => cases hi
  | calm => cases hi
  | send => cases hi
  | none => cases hi
  | tick =>
    rcases fold_from (arrs t) (beg t, []) i hi with h1 | ⟨p, hp, ha, e⟩
    · cases h1
    · obtain ⟨r, hr, hpr⟩ := arrs_mem hp
      obtain ⟨a, haa, ei⟩ := h.ak r hr p hpr ha
      rw [tick_now]
      have hex : ∃ a ∈ t.ac, a.id = i := ⟨a, haa, ei.trans e⟩
      refine ⟨accT_pos hex (fun b hb => (hk.ac b hb).1), ?_⟩
      unfold accT
      cases hq : t.ac.find? (fun a => a.id == i) with
      | none =>
        show (0 : Int) < ((t.now + 1 : Nat) : Int)
        omega
      | some b =>
        have := (hk.ac b (List.mem_of_find?_eq_some hq)).2
        show b.tk < ((t.now + 1 : Nat) : Int)
        omega
theorem nodup_take {l : List Ac} (h : (l.map (·.id)).Nodup) {k : Nat} {x : Ac} (hx : l[k]? = some x) : accT (l.take k) x.id = 0 := by
  unfold accT
  have : (l.take k).find? (fun a => a.id == x.id) = none := by
    rw [List.find?_eq_none]
    intro a ha
    obtain ⟨j, hj, e⟩ := List.getElem_of_mem ha
    rw [List.length_take] at hj
    obtain ⟨hk, ex⟩ := List.getElem?_eq_some_iff.1 hx
    rw [List.getElem_take] at e
    simp only [beq_iff_eq]
    intro q
    have h1 := List.pairwise_iff_getElem.1 h j k (by simp; omega) (by simpa using hk) (by omega)
    apply h1
    rw [List.getElem_map, List.getElem_map, e, ex]
    exact q
  rw [this]
  rfl
/-- Was it sent among the first k steps? -/
def sentIn (os : List OpN) (k : Nat) (i : Int) (b : List Nat) : Prop := ∃ j o, j < k ∧ os[j]? = some o ∧ o.kind = 3 ∧ o.id = i ∧ o.bs = b
theorem sentIn.mono {os : List OpN} {k m : Nat} {i : Int} {b : List Nat} (h : sentIn os k i b) (hm : k ≤ m) : sentIn os m i b := by
  obtain ⟨j, o, h1, h2⟩ := h
  exact ⟨j, o, by omega, h2⟩
end NwM
end Go.Proofs.Ytblfolaakblcfaa
