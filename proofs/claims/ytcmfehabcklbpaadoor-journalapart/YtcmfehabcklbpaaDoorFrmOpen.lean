/-
  Ours: payloads that came in, opened.
-/
import Derived.Test.YtcmfehabcklbpaaDoorFrmLaw2
import Derived.Test.YtcmfehabcklbpaaDoorFrmEnc
import Derived.Test.YtcmfehabcklbpaaDoorWirRow
import Derived.ChangeArms
import Derived.Deep.Slices
namespace Go.Proofs.YtcmfehabcklbpaaDoor
open Go.RowKit

/-- Payloads that came in. -/
structure Sml (cs : List (List Nat)) : Prop where
  cnt : cs.length ≤ 1048576
  len : ∀ c ∈ cs, c.length ≤ 1048576
  byt : ∀ c ∈ cs, ∀ b ∈ c, b < 256
theorem Sml.lenD {cs : List (List Nat)} (h : Sml cs) (i : Nat) : (cs.getD i []).length ≤ 1048576 := by
  rw [List.getD_eq_getElem?_getD]
  cases e : cs[i]? with
  | none => simp
  | some y => exact h.len y (List.mem_of_getElem? e)
theorem Sml.bytD {cs : List (List Nat)} (h : Sml cs) (i : Nat) : ∀ b ∈ cs.getD i [], b < 256 := by
  rw [List.getD_eq_getElem?_getD]
  cases e : cs[i]? with
  | none => intro b hb; cases hb
  | some y => exact h.byt y (List.mem_of_getElem? e)
theorem take_next {α : Type} (cs : List (List α)) (k : Nat) (h : k < cs.length) : cs.take (k + 1) = cs.take k ++ [cs.getD k []] := by
  rw [List.take_add_one, List.getD_eq_getElem?_getD, List.getElem?_eq_getElem h]; rfl
theorem join_snoc (ps : List (List Nat)) (p : List Nat) : CrcM.join (ps ++ [p]) = CrcM.join ps ++ CrcM.enc p := by unfold CrcM.join; simp
theorem join_nil : CrcM.join [] = [] := by unfold CrcM.join; rfl
theorem sizeL_snoc (ps : List (List Nat)) (p : List Nat) : CrcM.sizeL (ps ++ [p]) = CrcM.sizeL ps + p.length + 8 := by
  unfold CrcM.sizeL; rw [join_snoc, List.length_append, CrcM.enc_len]; omega
theorem sizeL_take_le : ∀ (ps : List (List Nat)) (k : Nat), CrcM.sizeL (ps.take k) ≤ CrcM.sizeL ps
  | [], k => by simp
  | p :: ps, 0 => by simp [CrcM.sizeL_nil]
  | p :: ps, k + 1 => by have := sizeL_take_le ps k; rw [List.take_succ_cons, CrcM.sizeL_cons, CrcM.sizeL_cons]; omega
theorem Sml.size {cs : List (List Nat)} (h : Sml cs) : CrcM.sizeL cs ≤ cs.length * 1048584 := by
  have H : ∀ l : List (List Nat), (∀ c ∈ l, c.length ≤ 1048576) → CrcM.sizeL l ≤ l.length * 1048584 := by
    intro l
    induction l with
    | nil => intro _; rw [CrcM.sizeL_nil]; omega
    | cons p l ih =>
      intro hl
      have h1 := ih (fun c hc => hl c (by simp [hc]))
      have h2 := hl p (by simp)
      rw [CrcM.sizeL_cons, List.length_cons, Nat.add_mul]
      omega
  exact H cs h.len

theorem zip_mem {α β : Type} {vs : List α} {ps : List β} (hl : vs.length = ps.length) {y : α} (hy : y ∈ vs) : ∃ q, (y, q) ∈ vs.zip ps := by
  obtain ⟨i, hi, e⟩ := List.getElem_of_mem hy
  have : (vs.zip ps)[i]? = some (vs[i], ps[i]) := by rw [List.getElem?_zip_eq_some]; exact ⟨List.getElem?_eq_getElem _, List.getElem?_eq_getElem _⟩
  exact ⟨ps[i], by rw [← e]; exact List.mem_of_getElem? this⟩
/-- One row more. -/
theorem RowsV.push {base : Nat} {w1 w2 : World} {v v' x : Value} {vs : List Value} {ps : List (List Nat)} {p : List Nat} (hv : RowV 22 base w1 v vs) (hl : vs.length = ps.length) (hi : ∀ y ∈ vs.zip ps, RowB 5 base w1 y.1 y.2)
    (hp : vs.Pairwise (fun a b => ∀ g, a.ownBlock = some g → b.ownBlock ≠ some g)) (hx : RowB 5 base w1 x p) (ha : ∀ y ∈ vs, ∀ g, y.ownBlock = some g → x.ownBlock ≠ some g) (r : RowV 22 base w2 v' (vs ++ [x])) (g : w1.grownBy w2 v.ownBlock) : RowsV base w2 v' (ps ++ [p]) := by
  have keep : ∀ {y : Value} {q : List Nat}, RowB 5 base w1 y q → RowB 5 base w2 y q := fun hy => RowV.kept hy g (fun g' hg e => rows_ne hy hv (by decide) hg e)
  refine ⟨vs ++ [x], r, by simp [hl], fun y hy => ?_, ?_⟩
  · rw [List.zip_append hl] at hy
    rcases List.mem_append.1 hy with h | h
    · exact keep (hi y h)
    · simp at h; subst h; exact keep hx
  · rw [List.pairwise_append]
    refine ⟨hp, List.pairwise_singleton _ _, fun y hy z hz => ?_⟩
    simp at hz; subst hz
    exact ha y hy

end Go.Proofs.YtcmfehabcklbpaaDoor

namespace Go.Proofs.YtcmfehabcklbpaaDoor
open Go.ChangeShapes Go.WideShapes Go.ChangeAt Go.RowKit

section
variable {H : Type} {enc : TypeId × Value → H} {W : World}
theorem bulk_elem {d : DataW H} {l r : List (DataW H)} (h : d ∈ l) (hk : Rows.uptoBulk (DataW.slice l r) ≤ 1048576) : Rows.uptoBulk d ≤ 1048576 := by
  have := bulk_mem h
  simp only [Rows.uptoBulk] at hk
  omega
theorem slice_cells {t e : TypeId} {k : IntKind} {fuel : Nat} {u : Value} {x : DataW H × List MemPlace} (ht : Tryd.prog.underlying t = some (.slice e)) (he : Tryd.prog.underlying e = some (.int k)) (hc : Tryd.prog.cellsOf e = 1)
    (hf : DataW.trod enc Tryd.prog W 0 (fun _ => true) true fuel t [u] = some x) : ∃ a n c, u = .slice a n c := by
  rcases open_ints ht he hc hf with ⟨hcs, _⟩ | ⟨x, l, c, zs, hcs, _⟩
  · simp at hcs; exact ⟨_, _, _, hcs⟩
  · simp at hcs; exact ⟨_, _, _, hcs⟩

set_option maxRecDepth 100000 in
theorem rows_open {s : Option Addr} {n c : Nat} {d : DataW H} {ps : List MemPlace} (h : DataW.Trod enc Tryd.prog W 0 (fun _ => true) true 32 (.slice s n c) d ps) (hk : Rows.uptoBulk d ≤ 1048576) :
    ∃ cs : List (List Nat), cs.length = n ∧ RdR W (.slice s n c) cs ∧ Sml cs := by
  obtain ⟨fuel, hf⟩ := h
  rcases Go.Deep.open_slice Tryd.underlying32 hf with ⟨hcs, _⟩ | ⟨a, len, cap, m, q, D, Pl, hcs, _, hl, hm, hmm, hd, hx⟩
  · simp [Value.cells] at hcs
    obtain ⟨rfl, rfl, rfl⟩ := hcs
    exact ⟨[], rfl, ⟨none, 0, rfl, by simp, fun i hi => by simp at hi⟩, ⟨by simp, (fun c hc => nomatch hc), fun c hc => nomatch hc⟩⟩
  · simp [Value.cells] at hcs
    obtain ⟨rfl, rfl, rfl⟩ := hcs
    have ce : Tryd.prog.cellsOf 22 = 1 := by kernel_rfl
    rw [ce] at hx
    simp only [if_true] at hmm
    have hd1 : d = .slice ((List.range n).map D) ((List.range (m - n)).map fun j => D (n + j)) := (Prod.mk.inj hd).1
    have hcnt : n ≤ 1048576 := by
      have := bulk_len ((List.range n).map D)
      rw [hd1] at hk
      simp only [Rows.uptoBulk] at hk
      simp at this
      omega
    obtain ⟨b, off, spot⟩ := a
    by_cases h0 : n = 0
    · subst h0
      exact ⟨[], rfl, ⟨_, c, rfl, by simp, fun i hi => by simp at hi⟩, ⟨by simp, (fun c hc => nomatch hc), fun c hc => nomatch hc⟩⟩
    have hspot : spot = none := by
      obtain ⟨cs', g1, _⟩ := hx 0 (by omega)
      obtain ⟨_, hlen, hcell⟩ := World.cells?_some g1
      have := hcell 0 (by omega)
      rw [List.getElem?_eq_getElem (by omega)] at this
      simpa [Addr.add] using World.cell?_spot this
    subst hspot
    have key : ∀ i, i < n → ∃ (bs : List Nat) (a : Option Addr) (cc : Nat), b < W.heap.size ∧ W.cell? ⟨b, off + i, none⟩ = some (.slice a bs.length cc) ∧ RdB W (.slice a bs.length cc) bs ∧ bs.length ≤ 1048576 ∧ ∀ x ∈ bs, x < 256 := fun i hi => by
      obtain ⟨cs', g1, g2⟩ := hx i (by omega)
      obtain ⟨_, hlen, hcell⟩ := World.cells?_some g1
      match cs', hlen with
      | [u], _ =>
        have c0 := hcell 0 (by omega)
        simp only [Nat.mul_one] at c0
        rw [Addr.add_lit, Addr.add_lit] at c0
        simp at c0
        obtain ⟨a, nn, cc, rfl⟩ := slice_cells Tryd.underlying22 Tryd.underlying5 (by kernel_rfl) g2
        obtain ⟨bs, l1, r1, b1, d1⟩ := bytes_open (a := a) (len := nn) (cap := cc) (d := D i) (ps := Pl i) Tryd.underlying22 Tryd.underlying5 (by kernel_rfl) ⟨_, g2⟩
        subst l1
        refine ⟨bs, a, cc, World.block_lt_of_cell? W _ c0, c0, r1, ?_, b1⟩
        have e1 := bulk_slice d1
        have e2 : Rows.uptoBulk (D i) ≤ 1048576 := bulk_elem (l := (List.range n).map D) (r := (List.range (m - n)).map fun j => D (n + j)) (List.mem_map.2 ⟨i, List.mem_range.2 hi, rfl⟩) (by rw [← hd1]; exact hk)
        omega
    have key2 : ∀ i, ∃ (bs : List Nat), (bs.length ≤ 1048576 ∧ ∀ x ∈ bs, x < 256) ∧ (i < n → ∃ (a : Option Addr) (cc : Nat), b < W.heap.size ∧ W.cell? ⟨b, off + i, none⟩ = some (.slice a bs.length cc) ∧ RdB W (.slice a bs.length cc) bs) := fun i => by
      by_cases hi : i < n
      · obtain ⟨bs, a, cc, k1, k2, k3, k4, k5⟩ := key i hi
        exact ⟨bs, ⟨k4, k5⟩, fun _ => ⟨a, cc, k1, k2, k3⟩⟩
      · exact ⟨[], ⟨by simp, fun x hx => nomatch hx⟩, fun h => absurd h hi⟩
    let f := fun i => Classical.choose (key2 i)
    have hf1 : ∀ i, (f i).length ≤ 1048576 ∧ ∀ x ∈ f i, x < 256 := fun i => (Classical.choose_spec (key2 i)).1
    have hf2 : ∀ i, i < n → ∃ (a : Option Addr) (cc : Nat), b < W.heap.size ∧ W.cell? ⟨b, off + i, none⟩ = some (.slice a (f i).length cc) ∧ RdB W (.slice a (f i).length cc) (f i) := fun i => (Classical.choose_spec (key2 i)).2
    refine ⟨(List.range n).map f, by simp, ⟨some ⟨b, off, none⟩, c, by simp, by simp; omega, fun i hi => ?_⟩, ⟨by simp; omega, fun x hx => ?_, fun x hx => ?_⟩⟩
    · rw [List.length_map, List.length_range] at hi
      obtain ⟨a, cc, k1, k2, k3⟩ := hf2 i hi
      have e : ((List.range n).map f).getD i [] = f i := by simp [List.getD_eq_getElem?_getD, List.getElem?_map, List.getElem?_range hi]
      rw [e]
      exact ⟨b, off, a, cc, rfl, k1, k2, k3⟩
    · obtain ⟨i, _, rfl⟩ := List.mem_map.1 hx
      exact (hf1 i).1
    · obtain ⟨i, _, rfl⟩ := List.mem_map.1 hx
      exact (hf1 i).2
end
end Go.Proofs.YtcmfehabcklbpaaDoor
