/-
  Ours: TimerqSorts: what is pure.
-/
import Derived.Test.YtahfilagnciopaaTqUn
namespace Go.Proofs.Ytahfilagnciopaa
open Go.RowKit TqM

namespace TqM
def dueK (day : Int) (k : Ky) : Bool := decide (k.d ≤ day)
def nDue (day : Int) (l : List Ky) : Nat := (l.filter (dueK day)).length
theorem nDue_step {day : Int} {l : List Ky} {i : Nat} (h : i < l.length) : nDue day (l.take (i + 1)) = nDue day (l.take i) + (if (kN l i).d ≤ day then 1 else 0) := by
  unfold nDue
  rw [take_kN h, List.filter_append, List.length_append]
  congr 1
  simp only [List.filter_cons, List.filter_nil, dueK]
  by_cases hd : (kN l i).d ≤ day <;> simp [hd]
theorem nDue_le (day : Int) (l : List Ky) : nDue day l ≤ l.length := List.length_filter_le _ _
theorem nDue_perm {day : Int} {a b : List Ky} (h : a.Perm b) : nDue day a = nDue day b := (h.filter _).length_eq
/-- What is left behind i calls. -/
structure SP (ks : List Ky) (N : Nat) (day : Int) (L : List (Ky × Int)) (i : Nat) (last : Ky) : Prop where
  len : L.length + i = (unT ks N).length
  due : nDue day (L.map (·.1)) + i = nDue day (unT ks N)
  sub : ∀ x ∈ L, x ∈ flT ks N
  rest : ∀ x ∈ flT ks N, x ∈ L ∨ x.1.d ≤ day
  up : 0 < i → ∀ x ∈ L, lt last x.1
theorem SP.start (ks : List Ky) (N : Nat) (day : Int) (last : Ky) : SP ks N day (flT ks N) 0 last :=
  ⟨by rw [flT_len]; rfl, by rw [nDue_perm (flT_perm ks N)]; rfl, fun _ h => h, fun _ h => .inl h, fun h => by omega⟩
theorem SP.some {ks : List Ky} {N : Nat} {day : Int} {L : List (Ky × Int)} {i : Nat} {last : Ky} (h : SP ks N day L i last) (hi : i < nDue day (unT ks N)) : ∃ x ∈ L, x.1.d ≤ day := by
  have h1 := h.due
  have : 0 < nDue day (L.map (·.1)) := by omega
  obtain ⟨k, hk⟩ := List.exists_mem_of_length_pos this
  obtain ⟨hm, hd⟩ := List.mem_filter.1 hk
  obtain ⟨x, hx, rfl⟩ := List.mem_map.1 hm
  exact ⟨x, hx, of_decide_eq_true hd⟩
theorem SP.none {ks : List Ky} {N : Nat} {day : Int} {L : List (Ky × Int)} {i : Nat} {last : Ky} (h : SP ks N day L i last) (hi : nDue day (unT ks N) ≤ i) : ∀ x ∈ L, day < x.1.d := by
  intro x hx
  have h1 := h.due
  by_cases hd : x.1.d ≤ day
  · have : x.1 ∈ (L.map (·.1)).filter (dueK day) := List.mem_filter.2 ⟨List.mem_map.2 ⟨x, hx, rfl⟩, decide_eq_true hd⟩
    have := List.length_pos_of_mem this
    unfold nDue at h1 hi
    omega
  · omega
end TqM
theorem TQ.QAt.nodup {R : Nat} {S : Nat → Prop} {L : List (Ky × Int)} {w : World} (h : TQ.QAt R S L w) : (L.map (·.1)).Nodup := by
  obtain ⟨bm, vh, hp, f, q, h⟩ := h
  exact h.nodup
theorem TQ.QAt.least {R : Nat} {S : Nat → Prop} {L : List (Ky × Int)} {w : World} (h : TQ.QAt R S L w) (h0 : L ≠ []) : ∃ z, TQ.Least z L := by
  obtain ⟨bm, vh, hp, f, q, h⟩ := h
  cases hp with
  | nil => exact absurd (List.eq_nil_of_length_eq_zero (by simpa using h.perm.length_eq.symm)) h0
  | cons a r => exact ⟨a, h.least rfl⟩
theorem TQ.Least.due {z x : Ky × Int} {L : List (Ky × Int)} {day : Int} (h : TQ.Least z L) (hx : x ∈ L) (hd : x.1.d ≤ day) : z.1.d ≤ day := by
  rcases h.2 x hx with rfl | h1
  · exact hd
  · unfold TqM.lt at h1; omega
theorem SPstep {ks : List Ky} {N : Nat} {day : Int} {L L' : List (Ky × Int)} {i : Nat} {last : Ky} {z : Ky × Int} (h : TqM.SP ks N day L i last) (hz : TQ.Least z L) (hd : z.1.d ≤ day) (hn : (L.map (·.1)).Nodup) (hp : L.Perm (z :: L')) : TqM.SP ks N day L' (i + 1) z.1 := by
  have hl := hp.length_eq
  have h1 := h.len
  have h2 := h.due
  have hnd := nDue_perm (day := day) (hp.map (·.1))
  have hn' := ((hp.map (·.1)).nodup_iff).1 hn
  rw [List.map_cons, List.nodup_cons] at hn'
  rw [List.map_cons] at hnd
  refine ⟨by simp at hl; omega, ?_, fun x hx => h.sub x (hp.mem_iff.2 (by simp [hx])), fun x hx => ?_, fun _ x hx => ?_⟩
  · unfold nDue at hnd h2 ⊢
    rw [List.filter_cons_of_pos (by exact decide_eq_true hd), List.length_cons] at hnd
    omega
  · rcases h.rest x hx with h3 | h3
    · rcases List.mem_cons.1 (hp.mem_iff.1 h3) with rfl | h4
      · exact .inr hd
      · exact .inl h4
    · exact .inr h3
  · rcases hz.2 x (hp.mem_iff.2 (by simp [hx])) with rfl | h3
    · exact absurd (List.mem_map.2 ⟨x, hx, rfl⟩) hn'.1
    · exact h3
/-- Is a key still there behind all? -/
theorem SPget {ks : List Ky} {N : Nat} {day : Int} {L : List (Ky × Int)} {i : Nat} {last : Ky} (h : TqM.SP ks N day L i last) (hi : nDue day (unT ks N) ≤ i) (k : Ky) (hk : k ∈ unT ks N) : (day < k.d ∧ ∃ v, (k, v) ∈ L) ∨ (k.d ≤ day ∧ k ∉ L.map (·.1)) := by
  by_cases hd : k.d ≤ day
  · refine .inr ⟨hd, fun hm => ?_⟩
    obtain ⟨x, hx, rfl⟩ := List.mem_map.1 hm
    have := h.none hi x hx
    omega
  · refine .inl ⟨by omega, ?_⟩
    have := (flT_perm ks N).mem_iff.2 hk
    obtain ⟨x, hx, rfl⟩ := List.mem_map.1 this
    rcases h.rest x hx with h1 | h1
    · exact ⟨x.2, h1⟩
    · omega
end Go.Proofs.Ytahfilagnciopaa
