/-
  Ours: keys, their order, heaps with a gap: pure.
-/
import Derived.Test.YtfdehlfhnlgcjaaDoorProg
namespace Go.Proofs.YtfdehlfhnlgcjaaDoor
namespace TqM

structure Ky where
  d : Int
  l : Int
  n : Int
deriving DecidableEq

def lt (a b : Ky) : Prop := a.d < b.d ∨ (a.d = b.d ∧ (a.l < b.l ∨ (a.l = b.l ∧ a.n < b.n)))
instance (a b : Ky) : Decidable (lt a b) := by unfold lt; infer_instance
theorem lt_irrefl (a : Ky) : ¬ lt a a := by unfold lt; omega
theorem lt_trans {a b c : Ky} (h : lt a b) (k : lt b c) : lt a c := by unfold lt at *; omega
theorem lt_ne {a b : Ky} (h : lt a b) : a ≠ b := fun e => lt_irrefl b (e ▸ h)
theorem lt_or (a b : Ky) (h : a ≠ b) : lt a b ∨ lt b a := by
  unfold lt
  rcases Int.lt_trichotomy a.d b.d with h1 | h1 | h1
  · omega
  · rcases Int.lt_trichotomy a.l b.l with h2 | h2 | h2
    · omega
    · rcases Int.lt_trichotomy a.n b.n with h3 | h3 | h3
      · omega
      · exact absurd (by cases a; cases b; simp_all) h
      · omega
    · omega
  · omega
theorem lt_asym {a b : Ky} (h : lt a b) : ¬ lt b a := fun k => lt_irrefl a (lt_trans h k)
def c3 (x y : Int) : Int := if x < y then -1 else if y < x then 1 else 0
/-- What compare answers. -/
def cmpK (a b : Ky) : Int := if c3 a.d b.d ≠ 0 then c3 a.d b.d else if c3 a.l b.l ≠ 0 then c3 a.l b.l else c3 a.n b.n
theorem cmpK_neg (a b : Ky) : cmpK a b < 0 ↔ lt a b := by
  unfold cmpK c3 lt
  repeat (first | omega | split)
theorem cmpK_small (a b : Ky) : -1 ≤ cmpK a b ∧ cmpK a b ≤ 1 := by
  unfold cmpK c3
  repeat (first | omega | split)
theorem cmpK_zero (a b : Ky) : cmpK a b = 0 ↔ a = b := by
  constructor
  · intro h
    by_cases e : a = b
    · exact e
    · rcases lt_or a b e with h1 | h1
      · have := (cmpK_neg a b).2 h1; omega
      · exfalso
        revert h
        unfold lt at h1
        unfold cmpK c3
        repeat (first | omega | split)
  · rintro rfl
    unfold cmpK c3
    repeat (first | omega | split)

section
variable {α : Type}

/-- A heap but for the gap g. -/
structure Gap (hp : List (Ky × α)) (g : Nat) : Prop where
  ord : ∀ (i : Nat) (x y : Ky × α), 0 < i → i ≠ g → (i - 1) / 2 ≠ g → hp[i]? = some x → hp[(i - 1) / 2]? = some y → lt y.1 x.1
  grand : ∀ (i : Nat) (x y : Ky × α), 0 < g → 0 < i → (i - 1) / 2 = g → hp[i]? = some x → hp[(g - 1) / 2]? = some y → lt y.1 x.1
/-- A heap. -/
def Hp (hp : List (Ky × α)) : Prop := ∀ (i : Nat) (x y : Ky × α), 0 < i → hp[i]? = some x → hp[(i - 1) / 2]? = some y → lt y.1 x.1
theorem Hp.gap {hp : List (Ky × α)} (h : Hp hp) (g : Nat) : Gap hp g := by
  refine ⟨fun i x y h0 _ _ => h i x y h0, fun i x y hg hi e hx hy => ?_⟩
  have hi' : i < hp.length := (List.getElem?_eq_some_iff.1 hx).1
  have hz : hp[(i - 1) / 2]? = some hp[(i - 1) / 2] := List.getElem?_eq_getElem (by omega)
  have h1 := h i x _ hi hx hz
  subst e
  exact lt_trans (h ((i - 1) / 2) _ y hg hz hy) h1
theorem set_perm : ∀ (l : List (Ky × α)) (j : Nat), j < l.length → ∀ a, (l.set j a).Perm (a :: l.eraseIdx j)
  | [], _, h, _ => by simp at h
  | _ :: _, 0, _, _ => by simp
  | b :: r, j + 1, h, a => by
    simp only [List.set_cons_succ, List.eraseIdx_cons_succ]
    exact ((set_perm r j (by simpa using h) a).cons b).trans (List.Perm.swap a b _)
theorem get_perm (l : List (Ky × α)) (j : Nat) (h : j < l.length) : (l[j] :: l.eraseIdx j).Perm l := by
  have := set_perm l j h l[j]
  rw [List.set_getElem_self] at this
  exact this.symm
theorem getset {hp : List (Ky × α)} {g i : Nat} {z : Ky × α} (hg : g < hp.length) : (hp.set g z)[i]? = if i = g then some z else hp[i]? := by
  rw [List.getElem?_set]
  by_cases e : g = i
  · subst e; simp [hg]
  · simp [e, Ne.symm e]

theorem Gap.raise {hp : List (Ky × α)} {g : Nat} {z : Ky × α} (h : Gap hp g) (h0 : 0 < g) (hg : g < hp.length) (hz : hp[(g - 1) / 2]? = some z) : Gap (hp.set g z) ((g - 1) / 2) := by
  have ha : (g - 1) / 2 ≠ g := by omega
  refine ⟨fun i x y hi h1 h2 hx hy => ?_, fun i x y hga hi e hx hy => ?_⟩
  · rw [getset hg] at hx hy
    by_cases e1 : i = g
    · exact absurd (by rw [e1]) h2
    · rw [if_neg e1] at hx
      by_cases e2 : (i - 1) / 2 = g
      · rw [if_pos e2] at hy
        cases hy
        exact h.grand i x _ h0 hi e2 hx hz
      · rw [if_neg e2] at hy
        exact h.ord i x y hi e1 e2 hx hy
  · rw [getset hg] at hx hy
    rw [if_neg (by omega)] at hy
    have hyz : lt y.1 z.1 := h.ord ((g - 1) / 2) z y hga ha (by omega) hz hy
    by_cases e1 : i = g
    · rw [if_pos e1] at hx
      cases hx
      exact hyz
    · rw [if_neg e1] at hx
      exact lt_trans hyz (h.ord i x z hi e1 (by omega) hx (by rw [e]; exact hz))

theorem Gap.lower {hp : List (Ky × α)} {g c : Nat} {z : Ky × α} (h : Gap hp g) (h0 : 0 < c) (hc : (c - 1) / 2 = g) (hg : g < hp.length) (hz : hp[c]? = some z)
    (hl : ∀ (i : Nat) (x : Ky × α), 0 < i → (i - 1) / 2 = g → i ≠ c → hp[i]? = some x → lt z.1 x.1) : Gap (hp.set g z) c := by
  have ha : c ≠ g := by omega
  refine ⟨fun i x y hi h1 h2 hx hy => ?_, fun i x y hga hi e hx hy => ?_⟩
  · rw [getset hg] at hx hy
    by_cases e1 : i = g
    · rw [if_pos e1] at hx
      cases hx
      subst e1
      rw [if_neg (by omega)] at hy
      exact h.grand c z y hi h0 hc hz hy
    · rw [if_neg e1] at hx
      by_cases e2 : (i - 1) / 2 = g
      · rw [if_pos e2] at hy
        cases hy
        exact hl i x hi e2 h1 hx
      · rw [if_neg e2] at hy
        exact h.ord i x y hi e1 e2 hx hy
  · rw [getset hg] at hx hy
    rw [if_pos hc] at hy
    cases hy
    rw [if_neg (by omega)] at hx
    exact h.ord i x z hi (by omega) (by omega) hx (by rw [e]; exact hz)

theorem Gap.lay {hp : List (Ky × α)} {g : Nat} {t : Ky × α} (h : Gap hp g) (hg : g < hp.length) (hu : ∀ y, 0 < g → hp[(g - 1) / 2]? = some y → lt y.1 t.1)
    (hd : ∀ (i : Nat) (x : Ky × α), 0 < i → (i - 1) / 2 = g → hp[i]? = some x → lt t.1 x.1) : Hp (hp.set g t) := by
  intro i x y hi hx hy
  rw [getset hg] at hx hy
  by_cases e1 : i = g
  · rw [if_pos e1] at hx
    cases hx
    subst e1
    rw [if_neg (by omega)] at hy
    exact hu y hi hy
  · rw [if_neg e1] at hx
    by_cases e2 : (i - 1) / 2 = g
    · rw [if_pos e2] at hy
      cases hy
      exact hd i x hi e2 hx
    · rw [if_neg e2] at hy
      exact h.ord i x y hi e1 e2 hx hy

/-- The places of all keys but that of the gap. -/
structure Pl (hp : List (Ky × α)) (f : Ky → Option Nat) (g : Nat) (k : Ky) : Prop where
  at' : ∀ x, x ≠ k → ∀ i, f x = some i ↔ i ≠ g ∧ ∃ a, hp[i]? = some (x, a)
  fresh : ∀ (i : Nat) a, i ≠ g → hp[i]? ≠ some (k, a)
def upd (f : Ky → Option Nat) (k : Ky) (v : Option Nat) : Ky → Option Nat := fun x => if x = k then v else f x
/-- The places of all keys. -/
def Pls (hp : List (Ky × α)) (f : Ky → Option Nat) : Prop := ∀ x i, f x = some i ↔ ∃ a, hp[i]? = some (x, a)
theorem Pl.step {hp : List (Ky × α)} {f : Ky → Option Nat} {g a : Nat} {k : Ky} {z : Ky × α} (h : Pl hp f g k) (hg : g < hp.length) (ha : a ≠ g) (hz : hp[a]? = some z) : Pl (hp.set g z) (upd f z.1 (some g)) a k := by
  have hzk : z.1 ≠ k := fun e => h.fresh a z.2 ha (by rw [hz, ← e])
  have fz : f z.1 = some a := (h.at' z.1 hzk a).2 ⟨ha, z.2, hz⟩
  refine ⟨fun x hx i => ?_, fun i b hi e => ?_⟩
  · simp only [upd, getset hg]
    by_cases e : x = z.1
    · rw [if_pos e]
      subst e
      constructor
      · intro hi
        cases hi
        exact ⟨fun e => ha e.symm, z.2, by rw [if_pos rfl]⟩
      · rintro ⟨h1, b, h2⟩
        by_cases e1 : i = g
        · rw [e1]
        · rw [if_neg e1] at h2
          have := (h.at' z.1 hzk i).2 ⟨e1, b, h2⟩
          rw [fz] at this
          cases this
          exact absurd rfl h1
    · rw [if_neg e, h.at' x hx i]
      constructor
      · rintro ⟨h1, b, h2⟩
        refine ⟨fun e1 => ?_, b, by rw [if_neg h1]; exact h2⟩
        subst e1
        rw [hz] at h2
        injection h2 with h2
        exact e (by rw [h2])
      · rintro ⟨h1, b, h2⟩
        by_cases e1 : i = g
        · rw [if_pos e1] at h2
          injection h2 with h2
          exact absurd (by rw [h2]) e
        · rw [if_neg e1] at h2
          exact ⟨e1, b, h2⟩
  · rw [getset hg] at e
    by_cases e1 : i = g
    · rw [if_pos e1] at e
      injection e with e
      exact hzk (by rw [e])
    · rw [if_neg e1] at e
      exact h.fresh i b e1 e
theorem Pl.lay {hp : List (Ky × α)} {f : Ky → Option Nat} {g : Nat} {k : Ky} {v : α} (h : Pl hp f g k) (hg : g < hp.length) : Pls (hp.set g (k, v)) (upd f k (some g)) := by
  intro x i
  simp only [upd, getset hg]
  by_cases e : x = k
  · rw [if_pos e]
    subst e
    constructor
    · intro hi
      cases hi
      exact ⟨v, by rw [if_pos rfl]⟩
    · rintro ⟨b, h2⟩
      by_cases e1 : i = g
      · rw [e1]
      · rw [if_neg e1] at h2
        exact absurd h2 (h.fresh i b e1)
  · rw [if_neg e, h.at' x e i]
    constructor
    · rintro ⟨h1, b, h2⟩
      exact ⟨b, by rw [if_neg h1]; exact h2⟩
    · rintro ⟨b, h2⟩
      by_cases e1 : i = g
      · rw [if_pos e1] at h2
        injection h2 with h2
        exact absurd (by rw [show k = x from by injection h2]) e
      · rw [if_neg e1] at h2
        exact ⟨e1, b, h2⟩

/-- A heap with a gap at g for the key k: the others are R. -/
structure GS (hp : List (Ky × α)) (f : Ky → Option Nat) (g : Nat) (k : Ky) (R : List (Ky × α)) : Prop where
  lt : g < hp.length
  gap : Gap hp g
  pl : Pl hp f g k
  perm : (hp.eraseIdx g).Perm R
theorem erase_step {hp : List (Ky × α)} {g a : Nat} {z : Ky × α} (hg : g < hp.length) (hag : a ≠ g) (hz : hp[a]? = some z) : ((hp.set g z).eraseIdx a).Perm (hp.eraseIdx g) := by
  have ha : a < hp.length := (List.getElem?_eq_some_iff.1 hz).1
  have p1 := set_perm hp g hg z
  have ha' : a < (hp.set g z).length := by simpa using ha
  have p2 := get_perm _ _ ha'
  have e : (hp.set g z)[a] = z := by
    have := getset (i := a) (z := z) hg
    rw [if_neg hag, hz, List.getElem?_eq_getElem ha'] at this
    injection this
  rw [e] at p2
  exact (List.perm_cons z).1 (p2.trans p1)
theorem GS.raise {hp : List (Ky × α)} {f : Ky → Option Nat} {g : Nat} {k : Ky} {R : List (Ky × α)} {z : Ky × α} (h : GS hp f g k R) (h0 : 0 < g) (hz : hp[(g - 1) / 2]? = some z) : GS (hp.set g z) (upd f z.1 (some g)) ((g - 1) / 2) k R := by
  have hl := h.lt
  exact ⟨by simp; omega, h.gap.raise h0 h.lt hz, h.pl.step h.lt (by omega) hz, (erase_step h.lt (by omega) hz).trans h.perm⟩
theorem GS.lower {hp : List (Ky × α)} {f : Ky → Option Nat} {g c : Nat} {k : Ky} {R : List (Ky × α)} {z : Ky × α} (h : GS hp f g k R) (h0 : 0 < c) (hc : (c - 1) / 2 = g) (hz : hp[c]? = some z)
    (hl : ∀ (i : Nat) (x : Ky × α), 0 < i → (i - 1) / 2 = g → i ≠ c → hp[i]? = some x → TqM.lt z.1 x.1) : GS (hp.set g z) (upd f z.1 (some g)) c k R := by
  have hc' : c < hp.length := (List.getElem?_eq_some_iff.1 hz).1
  exact ⟨by simpa using hc', h.gap.lower h0 hc h.lt hz hl, h.pl.step h.lt (by omega) hz, (erase_step h.lt (by omega) hz).trans h.perm⟩

/-- A heap and the places of its keys, that hold R. -/
structure HS (hp : List (Ky × α)) (f : Ky → Option Nat) (R : List (Ky × α)) : Prop where
  ord : Hp hp
  pls : Pls hp f
  perm : hp.Perm R
theorem GS.lay {hp : List (Ky × α)} {f : Ky → Option Nat} {g : Nat} {k : Ky} {R : List (Ky × α)} {v : α} (h : GS hp f g k R) (hu : ∀ y, 0 < g → hp[(g - 1) / 2]? = some y → TqM.lt y.1 k)
    (hd : ∀ (i : Nat) (x : Ky × α), 0 < i → (i - 1) / 2 = g → hp[i]? = some x → TqM.lt k x.1) : HS (hp.set g (k, v)) (upd f k (some g)) ((k, v) :: R) :=
  ⟨h.gap.lay h.lt hu hd, h.pl.lay h.lt, (set_perm hp g h.lt _).trans (h.perm.cons _)⟩

theorem HS.keys {hp : List (Ky × α)} {f : Ky → Option Nat} {R : List (Ky × α)} (h : HS hp f R) : (hp.map (·.1)).Nodup := by
  rw [List.nodup_iff_pairwise_ne, List.pairwise_map, List.pairwise_iff_getElem]
  intro i j hi hj hij e
  have h1 := (h.pls hp[i].1 i).2 ⟨hp[i].2, List.getElem?_eq_getElem hi⟩
  have h2 := (h.pls hp[i].1 j).2 ⟨hp[j].2, by rw [List.getElem?_eq_getElem hj, e]⟩
  rw [h1] at h2
  injection h2
  omega
theorem HS.nodup {hp : List (Ky × α)} {f : Ky → Option Nat} {R : List (Ky × α)} (h : HS hp f R) : (R.map (·.1)).Nodup := ((h.perm.map (·.1)).nodup_iff).1 h.keys
theorem HS.absent {hp : List (Ky × α)} {f : Ky → Option Nat} {R : List (Ky × α)} (h : HS hp f R) (k : Ky) : f k = none ↔ k ∉ R.map (·.1) := by
  rw [← (h.perm.map (·.1)).mem_iff]
  constructor
  · intro h1 h2
    obtain ⟨p, hp1, hp2⟩ := List.mem_map.1 h2
    obtain ⟨i, hi, e⟩ := List.getElem_of_mem hp1
    have := (h.pls k i).2 ⟨p.2, by rw [List.getElem?_eq_getElem hi, e, ← hp2]⟩
    rw [h1] at this
    cases this
  · intro h1
    cases hf : f k with
    | none => rfl
    | some i =>
      obtain ⟨a, ha⟩ := (h.pls k i).1 hf
      exact absurd (List.mem_map.2 ⟨_, List.mem_of_getElem? ha, rfl⟩) h1
theorem HS.place {hp : List (Ky × α)} {f : Ky → Option Nat} {R : List (Ky × α)} (h : HS hp f R) {k : Ky} {i : Nat} (hf : f k = some i) : ∃ v, hp[i]? = some (k, v) ∧ (k, v) ∈ R := by
  obtain ⟨a, ha⟩ := (h.pls k i).1 hf
  exact ⟨a, ha, h.perm.mem_iff.1 (List.mem_of_getElem? ha)⟩

/-- The gap of a new one behind the last. -/
theorem HS.add {hp : List (Ky × α)} {f : Ky → Option Nat} {R : List (Ky × α)} (h : HS hp f R) {k : Ky} {v : α} (hf : f k = none) : GS (hp ++ [(k, v)]) f hp.length k R := by
  have old : ∀ (i : Nat) (x : Ky × α), i ≠ hp.length → (hp ++ [(k, v)])[i]? = some x → hp[i]? = some x := fun i x hi hx => by
    by_cases h1 : i < hp.length
    · rwa [List.getElem?_append_left h1] at hx
    · rw [List.getElem?_append_right (by omega)] at hx
      rw [List.getElem?_eq_none (by simp; omega)] at hx
      cases hx
  have old' : ∀ (i : Nat) (x : Ky × α), hp[i]? = some x → (hp ++ [(k, v)])[i]? = some x := fun i x hx => by
    rw [List.getElem?_append_left (List.getElem?_eq_some_iff.1 hx).1]; exact hx
  refine ⟨by simp, ⟨fun i x y hi h1 h2 hx hy => h.ord i x y hi (old _ _ h1 hx) (old _ _ h2 hy), fun i x y hg hi e hx hy => ?_⟩, ⟨fun x hx i => ?_, fun i a hi e => ?_⟩, ?_⟩
  · have := (List.getElem?_eq_some_iff.1 hx).1
    simp at this
    omega
  · rw [h.pls x i]
    constructor
    · rintro ⟨a, ha⟩
      have := (List.getElem?_eq_some_iff.1 ha).1
      exact ⟨by omega, a, old' _ _ ha⟩
    · rintro ⟨h1, a, ha⟩
      exact ⟨a, old _ _ h1 ha⟩
  · have := (h.pls k i).2 ⟨a, old _ _ hi e⟩
    rw [hf] at this
    cases this
  · rw [List.eraseIdx_append_of_length_le (Nat.le_refl _)]
    simpa using h.perm

/-- The gap of a key that is renamed. -/
theorem HS.rename {hp : List (Ky × α)} {f : Ky → Option Nat} {R : List (Ky × α)} (h : HS hp f R) {k k' : Ky} {v : α} {i : Nat} (hi : hp[i]? = some (k, v)) (hf : f k' = none) : ∃ R', R.Perm ((k, v) :: R') ∧ GS hp (upd f k none) i k' R' := by
  have hl : i < hp.length := (List.getElem?_eq_some_iff.1 hi).1
  have ei : hp[i] = (k, v) := by rw [List.getElem?_eq_getElem hl] at hi; injection hi
  have fk : f k = some i := (h.pls k i).2 ⟨v, hi⟩
  refine ⟨hp.eraseIdx i, ?_, hl, h.ord.gap i, ⟨fun x hx j => ?_, fun j a hj e => ?_⟩, List.Perm.refl _⟩
  · have := get_perm _ _ hl
    rw [ei] at this
    exact h.perm.symm.trans this.symm
  · simp only [upd]
    by_cases e : x = k
    · rw [if_pos e]
      subst e
      constructor
      · intro h; cases h
      · rintro ⟨h1, a, ha⟩
        have := (h.pls x j).2 ⟨a, ha⟩
        rw [fk] at this
        injection this with this
        exact absurd this.symm h1
    · rw [if_neg e, h.pls x j]
      constructor
      · rintro ⟨a, ha⟩
        refine ⟨fun e1 => ?_, a, ha⟩
        subst e1
        rw [hi] at ha
        injection ha with ha
        exact e (by injection ha with ha _; exact ha.symm)
      · rintro ⟨_, ha⟩; exact ha
  · have := (h.pls k' j).2 ⟨a, e⟩
    rw [hf] at this
    cases this

/-- The last one taken out. -/
theorem HS.pop {hp : List (Ky × α)} {f : Ky → Option Nat} {R : List (Ky × α)} (h : HS hp f R) {k : Ky} {v : α} {i : Nat} (hi : hp[i]? = some (k, v)) (he : i = hp.length - 1) : ∃ R', R.Perm ((k, v) :: R') ∧ HS (hp.take (hp.length - 1)) (upd f k none) R' := by
  have hl : i < hp.length := (List.getElem?_eq_some_iff.1 hi).1
  have ei : hp[i] = (k, v) := by rw [List.getElem?_eq_getElem hl] at hi; injection hi
  have fk : f k = some i := (h.pls k i).2 ⟨v, hi⟩
  have er : hp.eraseIdx i = hp.take (hp.length - 1) := by
    rw [List.eraseIdx_eq_take_drop_succ, List.drop_of_length_le (by omega), List.append_nil, he]
  have g : ∀ (j : Nat) (x : Ky × α), (hp.take (hp.length - 1))[j]? = some x ↔ j < hp.length - 1 ∧ hp[j]? = some x := fun j x => by
    rw [List.getElem?_take]
    split
    · simp; intro; omega
    · constructor
      · intro h; cases h
      · rintro ⟨h, _⟩; omega
  refine ⟨hp.eraseIdx i, ?_, ?_, fun x j => ?_, by rw [er]⟩
  · have := get_perm _ _ hl
    rw [ei] at this
    exact h.perm.symm.trans this.symm
  · intro j x y hj hx hy
    exact h.ord j x y hj ((g _ _).1 hx).2 ((g _ _).1 hy).2
  · simp only [upd]
    by_cases e : x = k
    · rw [if_pos e]
      subst e
      constructor
      · intro h; cases h
      · rintro ⟨a, ha⟩
        obtain ⟨h1, h2⟩ := (g _ _).1 ha
        have := (h.pls x j).2 ⟨a, h2⟩
        rw [fk] at this
        injection this with this
        omega
    · rw [if_neg e, h.pls x j]
      constructor
      · rintro ⟨a, ha⟩
        refine ⟨a, (g _ _).2 ⟨?_, ha⟩⟩
        have h1 := (List.getElem?_eq_some_iff.1 ha).1
        rcases Nat.lt_or_ge j (hp.length - 1) with h2 | h2
        · exact h2
        · have : j = i := by omega
          subst this
          rw [hi] at ha
          injection ha with ha
          exact absurd (by injection ha with ha _; exact ha.symm) e
      · rintro ⟨a, ha⟩
        exact ⟨a, ((g _ _).1 ha).2⟩

/-- One taken out of the midst, the last one waiting for the gap. -/
theorem HS.take {hp : List (Ky × α)} {f : Ky → Option Nat} {R : List (Ky × α)} (h : HS hp f R) {k k' : Ky} {v v' : α} {i : Nat} (hi : hp[i]? = some (k, v)) (he : i < hp.length - 1) (hl' : hp[hp.length - 1]? = some (k', v')) :
    ∃ R', R.Perm ((k, v) :: (k', v') :: R') ∧ GS (hp.take (hp.length - 1)) (upd f k none) i k' R' := by
  have hl : i < hp.length := by omega
  have ei : hp[i] = (k, v) := by rw [List.getElem?_eq_getElem hl] at hi; injection hi
  have fk : f k = some i := (h.pls k i).2 ⟨v, hi⟩
  have fk' : f k' = some (hp.length - 1) := (h.pls k' _).2 ⟨v', hl'⟩
  have g : ∀ (j : Nat) (x : Ky × α), (hp.take (hp.length - 1))[j]? = some x ↔ j < hp.length - 1 ∧ hp[j]? = some x := fun j x => by
    rw [List.getElem?_take]
    split
    · simp; intro; omega
    · constructor
      · intro h; cases h
      · rintro ⟨h, _⟩; omega
  have hG := h.ord.gap i
  refine ⟨(hp.take (hp.length - 1)).eraseIdx i, ?_, by simp; omega, ⟨fun j x y hj h1 h2 hx hy => hG.ord j x y hj h1 h2 ((g _ _).1 hx).2 ((g _ _).1 hy).2, fun j x y hg hj e hx hy => hG.grand j x y hg hj e ((g _ _).1 hx).2 ((g _ _).1 hy).2⟩, ⟨fun x hx j => ?_, fun j a hj e => ?_⟩, List.Perm.refl _⟩
  · have hlt : i < (hp.take (hp.length - 1)).length := by simp; omega
    have p1 := get_perm _ _ hlt
    rw [List.getElem_take, ei] at p1
    have hne : hp ≠ [] := fun e => by simp [e] at hl
    have p2 : hp = hp.take (hp.length - 1) ++ [(k', v')] := by
      have hl2 : hp.length - 1 < hp.length := by omega
      have e2 : hp.drop (hp.length - 1) = [(k', v')] := by
        rw [List.drop_eq_getElem_cons hl2, List.drop_of_length_le (by omega)]
        rw [List.getElem?_eq_getElem hl2] at hl'
        injection hl' with hl'
        rw [hl']
      rw [← e2, List.take_append_drop]
    refine h.perm.symm.trans ?_
    refine (List.Perm.of_eq p2).trans ((List.perm_append_singleton _ _).trans ?_)
    exact ((p1.symm).cons _).trans (List.Perm.swap _ _ _)
  · simp only [upd]
    by_cases e : x = k
    · rw [if_pos e]
      subst e
      constructor
      · intro h; cases h
      · rintro ⟨h1, a, ha⟩
        have := (h.pls x j).2 ⟨a, ((g _ _).1 ha).2⟩
        rw [fk] at this
        injection this with this
        exact absurd this.symm h1
    · rw [if_neg e, h.pls x j]
      constructor
      · rintro ⟨a, ha⟩
        refine ⟨fun e1 => ?_, a, (g _ _).2 ⟨?_, ha⟩⟩
        · subst e1
          rw [hi] at ha
          injection ha with ha
          exact e (by injection ha with ha _; exact ha.symm)
        · have h1 := (List.getElem?_eq_some_iff.1 ha).1
          rcases Nat.lt_or_ge j (hp.length - 1) with h2 | h2
          · exact h2
          · have : j = hp.length - 1 := by omega
            subst this
            rw [hl'] at ha
            injection ha with ha
            exact absurd (by injection ha with ha _; exact ha.symm) hx
      · rintro ⟨_, a, ha⟩
        exact ⟨a, ((g _ _).1 ha).2⟩
  · have := (h.pls k' j).2 ⟨a, ((g _ _).1 e).2⟩
    rw [fk'] at this
    injection this with this
    have := ((g _ _).1 e).1
    omega

/-- The first of a heap is the least. -/
theorem Hp.least {hp : List (Ky × α)} (h : Hp hp) {z : Ky × α} (hz : hp[0]? = some z) : ∀ (n i : Nat) (x : Ky × α), i ≤ n → hp[i]? = some x → x = z ∨ lt z.1 x.1
  | n, 0, x, _, hx => by rw [hz] at hx; cases hx; exact .inl rfl
  | 0, i + 1, x, hn, hx => by omega
  | n + 1, i + 1, x, hn, hx => by
    have hi := (List.getElem?_eq_some_iff.1 hx).1
    have hy : hp[(i + 1 - 1) / 2]? = some hp[(i + 1 - 1) / 2] := List.getElem?_eq_getElem (by omega)
    have h1 := h (i + 1) x _ (by omega) hx hy
    rcases Hp.least h hz n ((i + 1 - 1) / 2) _ (by omega) hy with e | h2
    · rw [e] at h1; exact .inr h1
    · exact .inr (lt_trans h2 h1)
theorem HS.least {hp : List (Ky × α)} {f : Ky → Option Nat} {R : List (Ky × α)} (h : HS hp f R) {z : Ky × α} (hz : hp[0]? = some z) : z ∈ R ∧ ∀ x ∈ R, x = z ∨ lt z.1 x.1 := by
  refine ⟨h.perm.mem_iff.1 (List.mem_of_getElem? hz), fun x hx => ?_⟩
  obtain ⟨i, hi, e⟩ := List.getElem_of_mem (h.perm.mem_iff.2 hx)
  exact h.ord.least hz i i x (Nat.le_refl _) (by rw [List.getElem?_eq_getElem hi, e])
end
end TqM
end Go.Proofs.YtfdehlfhnlgcjaaDoor
