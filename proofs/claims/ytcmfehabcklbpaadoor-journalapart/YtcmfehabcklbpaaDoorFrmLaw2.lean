/-
  Ours: the statements' helpers plus, alike, turn; rows of rows of bytes as they read.
-/
import Derived.Test.YtcmfehabcklbpaaDoorFrmLaw
import Derived.Test.YtcmfehabcklbpaaDoorFrmScan
namespace Go.Proofs.YtcmfehabcklbpaaDoor
open Go.RowKit

/-- The slice value v reads as these byte strings. -/
def RdR (w : World) (v : Value) (cs : List (List Nat)) : Prop :=
  ∃ ao c, v = .slice ao cs.length c ∧ cs.length ≤ c ∧ ∀ i, i < cs.length → ∃ g o a' c', ao = some ⟨g, o, none⟩ ∧ g < w.heap.size ∧ w.cell? ⟨g, o + i, none⟩ = some (.slice a' (cs.getD i []).length c') ∧ RdB w (.slice a' (cs.getD i []).length c') (cs.getD i [])
theorem RdR.later {w w' : World} {v : Value} {cs : List (List Nat)} (h : RdR w v cs) (hb : Below w.heap.size w w') : RdR w' v cs := by
  obtain ⟨ao, c, e, h1, H⟩ := h
  refine ⟨ao, c, e, h1, fun i hi => ?_⟩
  obtain ⟨g, o, a', c', e1, lt, hc, hr⟩ := H i hi
  exact ⟨g, o, a', c', e1, Nat.lt_of_lt_of_le lt hb.size, (hb.cell (p := ⟨g, o + i, none⟩) lt).trans hc, Rd.later hr hb⟩
theorem RdR.drewN {w : World} {v : Value} {cs : List (List Nat)} (h : RdR w v cs) (n : Nat) : RdR (w.drewN n) v cs := h
theorem RdR.len {w : World} {v : Value} {cs : List (List Nat)} (h : RdR w v cs) : ∃ ao c, v = .slice ao cs.length c ∧ cs.length ≤ c := by obtain ⟨ao, c, e, h1, _⟩ := h; exact ⟨ao, c, e, h1⟩
theorem RdR.at {w : World} {ao : Option Addr} {n c : Nat} {cs : List (List Nat)} (h : RdR w (.slice ao n c) cs) : n = cs.length ∧ n ≤ c ∧ ∀ i, i < n → ∃ g o a' c', ao = some ⟨g, o, none⟩ ∧ w.cell? ⟨g, o + i, none⟩ = some (.slice a' (cs.getD i []).length c') ∧ RdB w (.slice a' (cs.getD i []).length c') (cs.getD i []) := by
  obtain ⟨ao', c', e, h1, H⟩ := h
  injection e with e1 e2 e3
  subst e1 e2 e3
  refine ⟨rfl, h1, fun i hi => ?_⟩
  obtain ⟨g, o, a', c', e1, _, hc, hr⟩ := H i hi
  exact ⟨g, o, a', c', e1, hc, hr⟩
theorem RdR.cut {w : World} {ao : Option Addr} {n c : Nat} {cs : List (List Nat)} (h : RdR w (.slice ao n c) cs) {k : Nat} (hk : k ≤ n) : RdR w (.slice ao k c) (cs.take k) := by
  obtain ⟨ao', c', e, h1, H⟩ := h
  injection e with e1 e2 e3
  subst e1 e2 e3
  have ll : (cs.take k).length = k := by rw [List.length_take]; omega
  refine ⟨ao, c, by rw [ll], by omega, fun i hi => ?_⟩
  rw [ll] at hi
  obtain ⟨g, o, a', c', e1, lt, hc, hr⟩ := H i (by omega)
  have e : (cs.take k).getD i [] = cs.getD i [] := by simp only [List.getD_eq_getElem?_getD, List.getElem?_take, if_pos hi]
  rw [e]
  exact ⟨g, o, a', c', e1, lt, hc, hr⟩
theorem RdR.tail {w : World} {ao : Option Addr} {n c : Nat} {cs : List (List Nat)} (h : RdR w (.slice ao n c) cs) {k : Nat} (hk : k ≤ n) {ad : Option Addr} (ha : ∀ g o, ao = some ⟨g, o, none⟩ → k < n → ad = some ⟨g, o + k, none⟩) : RdR w (.slice ad (n - k) (c - k)) (cs.drop k) := by
  obtain ⟨ao', c', e, h1, H⟩ := h
  injection e with e1 e2 e3
  subst e1 e2 e3
  have ll : (cs.drop k).length = cs.length - k := List.length_drop ..
  refine ⟨ad, c - k, by rw [ll], by omega, fun i hi => ?_⟩
  rw [ll] at hi
  obtain ⟨g, o, a', c', e1, lt, hc, hr⟩ := H (k + i) (by omega)
  have e : (cs.drop k).getD i [] = cs.getD (k + i) [] := by simp only [List.getD_eq_getElem?_getD, List.getElem?_drop]
  rw [e]
  exact ⟨g, o + k, a', c', ha g o e1 (by omega), lt, by rw [Nat.add_assoc]; exact hc, hr⟩
theorem RowsV.rd {base : Nat} {w : World} {v : Value} {ps : List (List Nat)} (h : RowsV base w v ps) : RdR w v ps := by
  obtain ⟨vs, h1, h2, h3, _⟩ := h.row
  obtain ⟨ao, cap, rfl, hc, _, H⟩ := RowV.rd h1
  refine ⟨ao, cap, by rw [h2], by omega, fun i hi => ?_⟩
  obtain ⟨g, o, e1, lt, e2⟩ := H i (by omega)
  have hm : (vs[i], ps[i]) ∈ vs.zip ps := by
    have : (vs.zip ps)[i]? = some (vs[i], ps[i]) := by rw [List.getElem?_zip_eq_some]; exact ⟨List.getElem?_eq_getElem _, List.getElem?_eq_getElem _⟩
    exact List.mem_of_getElem? this
  have hr := RowV.rd (h3 _ hm)
  have hg : ps.getD i [] = ps[i] := by rw [List.getD_eq_getElem?_getD, List.getElem?_eq_getElem hi]; rfl
  obtain ⟨a', c', e3, _⟩ := hr.len
  simp only [List.length_map] at e3
  refine ⟨g, o, a', c', e1, lt, ?_, ?_⟩
  · rw [e2, hg, e3]
  · rw [hg, ← e3]; exact hr

end Go.Proofs.YtcmfehabcklbpaaDoor
