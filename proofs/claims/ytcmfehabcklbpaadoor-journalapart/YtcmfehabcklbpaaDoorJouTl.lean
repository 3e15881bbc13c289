/-
  Ours: bytes of one's own, cut off at the front; rows of such.
-/
import Derived.Test.YtcmfehabcklbpaaDoorJouLay
import Derived.KernelRfl
namespace Go.Proofs.YtcmfehabcklbpaaDoor
open Go.RowKit

/-- The slice x is a row of bytes of the call's own without its front. -/
def OwnT (base : Nat) (w : World) (x : Value) (p : List Nat) : Prop :=
  ∃ g n cap k o q, RowB 5 base w (.slice (some ⟨g, 0, none⟩) n cap) q ∧ x = .slice (some ⟨g, o, none⟩) (n - k) (cap - k) ∧ k ≤ n ∧ p = q.drop k ∧ (k < cap → o = k)

theorem OwnT.rd {base : Nat} {w : World} {x : Value} {p : List Nat} (h : OwnT base w x p) : RdB w x p := by
  obtain ⟨g, n, cap, k, o, q, h1, rfl, hk, rfl, ho⟩ := h
  have hr := h1.rd
  have hn := (RdB.at hr)
  have := Rd.tail (k := k) hr hk (ad := some ⟨g, o, none⟩) (fun g' o' e hk' => by injection e with e; injection e with e1 e2; subst e1 e2; rw [ho (by omega), Nat.zero_add]) (fun h => by cases h)
  simpa [RdB, List.map_drop] using this
theorem OwnT.len {base : Nat} {w : World} {x : Value} {p : List Nat} (h : OwnT base w x p) : ∃ g o c, x = .slice (some ⟨g, o, none⟩) p.length c ∧ p.length ≤ c := by
  have hr := h.rd
  obtain ⟨g, n, cap, k, o, q, h1, rfl, hk, rfl, ho⟩ := h
  obtain ⟨e, hc, -⟩ := RdB.at hr
  exact ⟨g, o, cap - k, by rw [e], by omega⟩
theorem OwnT.later {base : Nat} {w w' : World} {x : Value} {p : List Nat} (h : OwnT base w x p) (hb : Below w.heap.size w w') : OwnT base w' x p := by
  obtain ⟨g, n, cap, k, o, q, h1, r⟩ := h
  exact ⟨g, n, cap, k, o, q, RowV.later h1 hb, r⟩
theorem OwnT.mono {base base' : Nat} {w : World} {x : Value} {p : List Nat} (h : OwnT base w x p) (hb : base' ≤ base) : OwnT base' w x p := by
  obtain ⟨g, n, cap, k, o, q, h1, r⟩ := h
  exact ⟨g, n, cap, k, o, q, RowV.mono h1 hb, r⟩
theorem OwnT.drewN {base : Nat} {w : World} {x : Value} {p : List Nat} (h : OwnT base w x p) (n : Nat) : OwnT base (w.drewN n) x p := h
theorem OwnT.kept {base : Nat} {w w' : World} {x : Value} {p : List Nat} {row : Option Nat} (h : OwnT base w x p) (hg : w.grownBy w' row) (hn : ∀ g, x.ownBlock = some g → row ≠ some g) : OwnT base w' x p := by
  obtain ⟨g, n, cap, k, o, q, h1, rfl, r⟩ := h
  exact ⟨g, n, cap, k, o, q, RowV.kept h1 hg (fun g' e => hn g' e), rfl, r⟩
theorem OwnT.block_ge {base : Nat} {w : World} {x : Value} {p : List Nat} (h : OwnT base w x p) {g : Nat} (hg : x.ownBlock = some g) : base ≤ g := by
  obtain ⟨g', n, cap, k, o, q, h1, rfl, r⟩ := h
  exact RowV.block_ge h1 hg
theorem OwnT.block_lt {base : Nat} {w : World} {x : Value} {p : List Nat} (h : OwnT base w x p) {g : Nat} (hg : x.ownBlock = some g) : g < w.heap.size := by
  obtain ⟨g', n, cap, k, o, q, h1, rfl, r⟩ := h
  exact RowV.block_lt h1 hg
theorem OwnT.sub {base : Nat} {w : World} {g o n c j o' : Nat} {p : List Nat} (h : OwnT base w (.slice (some ⟨g, o, none⟩) n c) p) (hj : j ≤ n) (ho : j < c → o' = o + j) : OwnT base w (.slice (some ⟨g, o', none⟩) (n - j) (c - j)) (p.drop j) := by
  obtain ⟨g1, n1, cap, k, o1, q, h1, e, hk, rfl, hok⟩ := h
  injection e with e1 e2 e3
  injection e1 with e1
  injection e1 with e1 e4
  subst e1 e2 e3 e4
  refine ⟨g, n1, cap, k + j, o', q, h1, by rw [Nat.sub_sub, Nat.sub_sub], by omega, by rw [List.drop_drop], fun hc => ?_⟩
  rw [ho (by omega), hok (by omega)]
/-- A row of another kind lies elsewhere. -/
theorem OwnT.ne {base base' : Nat} {w : World} {x v : Value} {p : List Nat} {vs : List Value} {e : TypeId} (h : OwnT base w x p) (hv : RowV e base' w v vs) (he : e ≠ 5) {g : Nat} (hg : x.ownBlock = some g) : v.ownBlock ≠ some g := by
  obtain ⟨g', n, cap, k, o, q, h1, rfl, r⟩ := h
  have hg' : (Value.slice (some ⟨g', 0, none⟩) n cap).ownBlock = some g := hg
  intro hv'
  rcases h1.2 with ⟨e1, _⟩ | ⟨g1, cap1, cur1, e1, _, hh1, _⟩
  · cases e1
  · rcases hv.2 with ⟨rfl, _⟩ | ⟨g2, cap2, cur2, rfl, _, hh2, _⟩
    · simp [Value.ownBlock] at hv'
    · injection e1 with e1
      injection e1 with e1
      injection e1 with e1
      subst e1
      simp only [Value.ownBlock, Option.some.injEq] at hg' hv'
      subst hg' hv'
      rw [hh1] at hh2
      injection hh2 with hh2
      injection hh2 with _ hh2
      exact he hh2.symm

/-- A row of such rows, apart from each other. -/
structure TlsV (base : Nat) (w : World) (v : Value) (ps : List (List Nat)) : Prop where
  row : ∃ vs : List Value, RowV 22 base w v vs ∧ vs.length = ps.length ∧ (∀ x ∈ vs.zip ps, OwnT base w x.1 x.2) ∧ vs.Pairwise (fun a b => ∀ g, a.ownBlock = some g → b.ownBlock ≠ some g)
theorem TlsV.later {base : Nat} {w w' : World} {v : Value} {ps : List (List Nat)} (h : TlsV base w v ps) (hb : Below w.heap.size w w') : TlsV base w' v ps := by
  obtain ⟨vs, h1, h2, h3, h4⟩ := h.row
  exact ⟨vs, RowV.later h1 hb, h2, fun x hx => (h3 x hx).later hb, h4⟩
theorem TlsV.mono {base base' : Nat} {w : World} {v : Value} {ps : List (List Nat)} (h : TlsV base w v ps) (hb : base' ≤ base) : TlsV base' w v ps := by
  obtain ⟨vs, h1, h2, h3, h4⟩ := h.row
  exact ⟨vs, RowV.mono h1 hb, h2, fun x hx => (h3 x hx).mono hb, h4⟩
theorem TlsV.nil (base : Nat) (w : World) : TlsV base w (.slice none 0 0) [] := ⟨[], RowV.nil _ _ _, rfl, (fun _ hx => nomatch hx), List.Pairwise.nil⟩
theorem TlsV.len {base : Nat} {w : World} {v : Value} {ps : List (List Nat)} (h : TlsV base w v ps) : ∃ a c, v = .slice a ps.length c ∧ ps.length ≤ c := by
  obtain ⟨vs, h1, h2, -⟩ := h.row
  obtain ⟨a, c, e, hc, -⟩ := (RowV.rd h1).len
  exact ⟨a, c, by rw [← h2]; exact e, by rw [← h2]; exact hc⟩
theorem zip_memT {α β : Type} {vs : List α} {ps : List β} (hl : vs.length = ps.length) {y : α} (hy : y ∈ vs) : ∃ q, (y, q) ∈ vs.zip ps := by
  obtain ⟨i, hi, e⟩ := List.getElem_of_mem hy
  have : (vs.zip ps)[i]? = some (vs[i], ps[i]) := by rw [List.getElem?_zip_eq_some]; exact ⟨List.getElem?_eq_getElem _, List.getElem?_eq_getElem _⟩
  exact ⟨ps[i], by rw [← e]; exact List.mem_of_getElem? this⟩
/-- One more. -/
theorem TlsV.push {base : Nat} {w1 w2 : World} {v v' x : Value} {vs : List Value} {ps : List (List Nat)} {p : List Nat} (hv : RowV 22 base w1 v vs) (hl : vs.length = ps.length) (hi : ∀ y ∈ vs.zip ps, OwnT base w1 y.1 y.2)
    (hp : vs.Pairwise (fun a b => ∀ g, a.ownBlock = some g → b.ownBlock ≠ some g)) (hx : OwnT base w1 x p) (ha : ∀ y ∈ vs, ∀ g, y.ownBlock = some g → x.ownBlock ≠ some g) (r : RowV 22 base w2 v' (vs ++ [x])) (g : w1.grownBy w2 v.ownBlock) : TlsV base w2 v' (ps ++ [p]) := by
  have keep : ∀ {y : Value} {q : List Nat}, OwnT base w1 y q → OwnT base w2 y q := fun hy => hy.kept g (fun g' hg e => hy.ne hv (by decide) hg e)
  refine ⟨vs ++ [x], r, by simp [hl], fun y hy => ?_, ?_⟩
  · rw [List.zip_append hl] at hy
    rcases List.mem_append.1 hy with h | h
    · exact keep (hi y h)
    · simp at h; subst h; exact keep hx
  · rw [List.pairwise_append]
    refine ⟨hp, List.pairwise_singleton _ _, fun y hy z hz => ?_⟩
    simp at hz; subst hz
    exact ha y hy
theorem infoTl : (Tryd.prog.info? 22).map (fun i => (i.zero, i.size, i.bytes)) = some (some (.slice none 0 0), 1, 24) := by kernel_rfl
theorem underTl : Tryd.prog.underlying 32 = some (.slice 22) := by kernel_rfl
end Go.Proofs.YtcmfehabcklbpaaDoor
