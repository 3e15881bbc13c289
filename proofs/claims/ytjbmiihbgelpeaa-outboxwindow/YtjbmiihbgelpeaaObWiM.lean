/-
  Ours: the window: what has been sent (pure).
-/
import Derived.Test.YtjbmiihbgelpeaaObLiv
namespace Go.Proofs.Ytjbmiihbgelpeaa
open Go.RowKit ObM LedM PolM

def cpL (L : List En) : List (Int × List Nat) := L.map cp
theorem cp_after (bo : Int → Int) (now : Int) (L : List En) : cpL (after bo now L) = cpL L := by
  unfold cpL after
  rw [List.map_map]
  apply List.map_congr_left
  intro x _
  simp only [Function.comp]
  split <;> rfl
theorem cp_at {L qs : List En} (h : cpL L = cpL qs) {i : Nat} {e x : En} (he : L[i]? = some e) (hx : qs[i]? = some x) : e.id = x.id ∧ e.bs = x.bs := by
  have h1 : (cpL L)[i]? = some (cp e) := by unfold cpL; rw [List.getElem?_map, he]; rfl
  rw [h] at h1
  unfold cpL at h1
  rw [List.getElem?_map, hx] at h1
  injection h1 with h1
  injection h1 with a b
  exact ⟨a.symm, b.symm⟩
theorem rise_at {L : List En} (h : Rise L) {i j : Nat} {a b : En} (hi : L[i]? = some a) (hj : L[j]? = some b) (e : a.id = b.id) : i = j := by
  obtain ⟨h1, rfl⟩ := List.getElem?_eq_some_iff.1 hi
  obtain ⟨h2, rfl⟩ := List.getElem?_eq_some_iff.1 hj
  have hp := List.pairwise_iff_getElem.1 h
  rcases Nat.lt_trichotomy i j with q | q | q
  · have := hp i j h1 h2 q; omega
  · exact q
  · have := hp j i h2 h1 q; omega
/-- What stands ahead of the tick now + k. -/
structure Wn (qs L : List En) (now C : Int) (k : Nat) (sn : List Int) : Prop where
  ids : cpL L = cpL qs
  rise : Rise L
  len : sn.length = qs.length
  bnd : ∀ (i : Nat) (x : Int), sn[i]? = some x → 0 ≤ x ∧ x ≤ 3000 * (k : Int)
  un : ∀ (i : Nat) (e : En), L[i]? = some e → (∃ x : Int, sn[i]? = some x ∧ 1 ≤ x) ∨ (e.nx ≤ now + C ∧ (k ≤ 1 ∨ now + k ≤ e.nx))
/-- Behind so many packets of the tick. -/
structure Wj (qs L : List En) (k : Nat) (ps : List Pk) (sn : List Int) (j : Nat) (sj : List Int) : Prop where
  len : sj.length = qs.length
  bnd : ∀ (i : Nat) (x : Int), sj[i]? = some x → 0 ≤ x ∧ x ≤ 3000 * (k : Int) + j
  mono : ∀ (i : Nat) (x : Int), sn[i]? = some x → 1 ≤ x → ∃ y : Int, sj[i]? = some y ∧ 1 ≤ y
  hit : ∀ (j' : Nat) (p : Pk), j' < j → ps[j']? = some p → ∀ (i : Nat) (e : En), L[i]? = some e → e.id = p.id → ∃ y : Int, sj[i]? = some y ∧ 1 ≤ y
theorem Wn.start {qs L : List En} {now C : Int} (h : cpL L = cpL qs) (hr : Rise L) (hn : ∀ e ∈ L, e.nx ≤ now + C) : Wn qs L now C 1 (List.replicate qs.length 0) :=
  ⟨h, hr, by simp, (fun i x hx => by
    rw [List.getElem?_replicate] at hx
    split at hx
    · injection hx with hx; omega
    · exact absurd hx (by simp)), fun i e he => .inr ⟨hn e (List.mem_of_getElem? he), .inl (by omega)⟩⟩
theorem Wn.inner {qs L : List En} {now C : Int} {k : Nat} {sn : List Int} {ps : List Pk} (h : Wn qs L now C k sn) : Wj qs L k ps sn 0 sn :=
  ⟨h.len, fun i x hx => by have := h.bnd i x hx; omega, fun i x hx h1 => ⟨x, hx, h1⟩, fun j' p hj => by omega⟩
/-- The packet of the number j stands for what lies at the place m. -/
theorem Wj.step {qs L : List En} {now C : Int} {k : Nat} {sn sj : List Int} {ps : List Pk} {j m : Nat} {p : Pk} {x : En} {v : Int} (h0 : Wn qs L now C k sn) (h : Wj qs L k ps sn j sj) (hp : ps[j]? = some p) (hm : qs[m]? = some x) (hx : x.id = p.id) (hv : sj[m]? = some v) : Wj qs L k ps sn (j + 1) (sj.set m (v + 1)) := by
  have hml : m < sj.length := (List.getElem?_eq_some_iff.1 hv).1
  have up : ∀ (i : Nat) (y : Int), sj[i]? = some y → 1 ≤ y → ∃ z : Int, (sj.set m (v + 1))[i]? = some z ∧ 1 ≤ z := fun i y hy h1 => by
    by_cases e : m = i
    · subst e
      rw [hv] at hy
      injection hy with hy
      exact ⟨v + 1, List.getElem?_set_self hml, by omega⟩
    · exact ⟨y, by rw [List.getElem?_set_ne e]; exact hy, h1⟩
  refine ⟨by rw [List.length_set]; exact h.len, fun i y hy => ?_, fun i y hy h1 => ?_, fun j' q hj hq i e he hi => ?_⟩
  · by_cases e : m = i
    · subst e
      rw [List.getElem?_set_self hml] at hy
      injection hy with hy
      have := h.bnd m v hv
      omega
    · rw [List.getElem?_set_ne e] at hy
      have := h.bnd i y hy
      omega
  · obtain ⟨z, hz, h2⟩ := h.mono i y hy h1
    exact up i z hz h2
  · by_cases q' : j' = j
    · subst q'
      rw [hp] at hq
      injection hq with hq
      obtain ⟨e', he'⟩ : ∃ e', L[m]? = some e' := by
        have hl : L.length = qs.length := by have := congrArg List.length h0.ids; simpa [cpL] using this
        have := (List.getElem?_eq_some_iff.1 hm).1
        exact ⟨L[m]'(by omega), List.getElem?_eq_getElem _⟩
      have := (cp_at h0.ids he' hm).1
      have hmi : i = m := rise_at h0.rise he he' (by rw [hi, ← hq, ← hx, this])
      subst hmi
      have := h.bnd i v hv
      exact ⟨v + 1, List.getElem?_set_self hml, by omega⟩
    · obtain ⟨z, hz, h2⟩ := h.hit j' q (by omega) hq i e he hi
      exact up i z hz h2
theorem Wj.done {qs L : List En} {now C : Int} {k : Nat} {bo : Int → Int} {sn sj : List Int} {ps : List Pk} (h0 : Wn qs L now C k sn) (h : Wj qs L k ps sn ps.length sj) (hp : ps.map (fun p => (p.id, p.bs)) = (dueL L (now + k)).map (fun x => (x.id, x.bs))) (hl : ps.length ≤ 2000) : Wn qs (after bo (now + k) L) now C (k + 1) sj := by
  refine ⟨(cp_after _ _ _).trans h0.ids, after_rise h0.rise, h.len, fun i x hx => by have := h.bnd i x hx; omega, fun i e he => ?_⟩
  unfold after at he
  rw [List.getElem?_map] at he
  cases hy : L[i]? with
  | none => rw [hy] at he; cases he
  | some y =>
    rw [hy] at he
    injection he with he
    by_cases d : y.nx ≤ now + k
    · left
      have hm : (y.id, y.bs) ∈ ps.map (fun p => (p.id, p.bs)) := by rw [hp]; exact List.mem_map.2 ⟨y, List.mem_filter.2 ⟨List.mem_of_getElem? hy, by simpa using d⟩, rfl⟩
      obtain ⟨p, hpm, ep⟩ := List.mem_map.1 hm
      injection ep with ep _
      obtain ⟨j, hj, ej⟩ := List.getElem_of_mem hpm
      exact h.hit j p hj (by rw [List.getElem?_eq_getElem hj, ej]) i y hy ep.symm
    · simp only at he
      rw [if_neg d] at he
      subst he
      rcases h0.un i y hy with ⟨x, hx, h1⟩ | ⟨h1, _⟩
      · exact .inl (h.mono i x hx h1)
      · exact .inr ⟨h1, .inr (by omega)⟩
theorem Wn.all {qs L : List En} {now C : Int} {k : Nat} {sn : List Int} (h : Wn qs L now C k sn) (hk : (k : Int) = C + 1) (hC : 1 ≤ C) {i : Nat} {x : Int} (hx : sn[i]? = some x) : 1 ≤ x := by
  have hi := (List.getElem?_eq_some_iff.1 hx).1
  have hl : L.length = qs.length := by have := congrArg List.length h.ids; simpa [cpL] using this
  have hil : i < L.length := by have := h.len; omega
  rcases h.un i _ (List.getElem?_eq_getElem hil) with ⟨y, hy, h1⟩ | ⟨h1, h2 | h2⟩
  · rw [hx] at hy; injection hy with hy; omega
  · omega
  · omega
/-- The packet, and what was held of it. -/
theorem due_bs {qs L : List En} {now : Int} {ps : List Pk} {j m : Nat} {p : Pk} {x : En} (ids : cpL L = cpL qs) (hr : Rise L) (hp : ps.map (fun p => (p.id, p.bs)) = (dueL L now).map (fun x => (x.id, x.bs))) (hj : ps[j]? = some p) (hm : qs[m]? = some x) (hx : x.id = p.id) : p.bs = x.bs := by
  have h1 : (p.id, p.bs) ∈ (dueL L now).map (fun x => (x.id, x.bs)) := by rw [← hp]; exact List.mem_map.2 ⟨p, List.mem_of_getElem? hj, rfl⟩
  obtain ⟨e, he, ee⟩ := List.mem_map.1 h1
  injection ee with e1 e2
  obtain ⟨i, hi, ei⟩ := List.getElem_of_mem (List.mem_filter.1 he).1
  have he' : L[i]? = some e := by rw [List.getElem?_eq_getElem hi, ei]
  obtain ⟨e0, he0⟩ : ∃ e', L[m]? = some e' := by
    have hl : L.length = qs.length := by have := congrArg List.length ids; simpa [cpL] using this
    have := (List.getElem?_eq_some_iff.1 hm).1
    exact ⟨L[m]'(by omega), List.getElem?_eq_getElem _⟩
  have q := cp_at ids he0 hm
  have : i = m := rise_at hr he' he0 (by rw [e1, ← hx, q.1])
  subst this
  rw [he'] at he0
  injection he0 with he0
  rw [← e2, he0, q.2]
theorem due_in {qs L : List En} {now : Int} {ps : List Pk} {j : Nat} {p : Pk} (ids : cpL L = cpL qs) (hp : ps.map (fun p => (p.id, p.bs)) = (dueL L now).map (fun x => (x.id, x.bs))) (hj : ps[j]? = some p) : ∃ x ∈ qs, x.id = p.id := by
  have h1 : (p.id, p.bs) ∈ (dueL L now).map (fun x => (x.id, x.bs)) := by rw [← hp]; exact List.mem_map.2 ⟨p, List.mem_of_getElem? hj, rfl⟩
  obtain ⟨e, he, ee⟩ := List.mem_map.1 h1
  injection ee with e1 _
  have : cp e ∈ cpL qs := by rw [← ids]; exact List.mem_map.2 ⟨e, (List.mem_filter.1 he).1, rfl⟩
  obtain ⟨x, hx, ex⟩ := List.mem_map.1 this
  injection ex with ex _
  exact ⟨x, hx, by rw [ex, e1]⟩
theorem due_up {L : List En} {now : Int} {ps : List Pk} {j : Nat} {p q : Pk} (hr : Rise L) (hp : ps.map (fun p => (p.id, p.bs)) = (dueL L now).map (fun x => (x.id, x.bs))) (h1 : ps[j]? = some p) (h2 : ps[j + 1]? = some q) : p.id < q.id := by
  have e : ps.map (·.id) = (dueL L now).map (·.id) := by
    have := congrArg (List.map (·.1)) hp
    rw [List.map_map, List.map_map] at this
    exact this
  have srt := ids_sorted (due_rise (now := now) hr)
  rw [← e, List.pairwise_iff_getElem] at srt
  have a1 := (List.getElem?_eq_some_iff.1 h1).1
  have a2 := (List.getElem?_eq_some_iff.1 h2).1
  have := srt j (j + 1) (by simpa using a1) (by simpa using a2) (by omega)
  rw [List.getElem?_eq_getElem a1] at h1
  rw [List.getElem?_eq_getElem a2] at h2
  injection h1 with h1
  injection h2 with h2
  simpa [h1, h2] using this
theorem cp_of_core {L qs : List En} (h : qs.map core = L.map core) : cpL L = cpL qs := by
  have e : ∀ l : List En, cpL l = (l.map core).map (fun c => (c.1, c.2.2.2)) := fun l => by unfold cpL; rw [List.map_map]; rfl
  rw [e, e, h]
end Go.Proofs.Ytjbmiihbgelpeaa
