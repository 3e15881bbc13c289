/-
  Ours: DskOx, DskExa, joined.
-/
import Derived.Test.YtiefnomldfhhnaaDskStp
import Derived.Deep.AppendLies
import Derived.Test.YtiefnomldfhhnaaDskZ
namespace Go.Proofs.Ytiefnomldfhhnaa
open Go.RowKit

/-- An operation, and where its data lie. -/
abbrev OX := OpD × Option Addr × Nat
abbrev oxL (q : OX) : List Value := OD q.1.kind q.1.other q.1.file q.1.a q.1.b q.2.1 q.1.data.length q.2.2
theorem range_later {w w' : World} {g o : Nat} {cs : List Value} (h : w.rangeAt g o cs) (hg : g < w.heap.size) (hb : Below w.heap.size w w') : w'.rangeAt g o cs := fun j v hv => (hb.cell (p := ⟨g, o + j, none⟩) hg).trans (h j v hv)
namespace OxM
def oxN (es : List (OX)) (i : Nat) : OX := es.getD i (⟨0, false, 0, 0, 0, []⟩, none, 0)
theorem oxN_at {es : List (OX)} {i : Nat} (h : i < es.length) : oxN es i = es[i] := by simp [oxN, List.getD_eq_getElem?_getD, List.getElem?_eq_getElem h]
theorem take_oxN {es : List (OX)} {i : Nat} (h : i < es.length) : es.take (i + 1) = es.take i ++ [oxN es i] := by
  rw [oxN_at h, List.take_add_one, List.getElem?_eq_getElem h]; rfl
end OxM
open OxM
/-- The slice value v reads as the entries es. -/
def RdX (w : World) (v : Value) (es : List (OX)) : Prop :=
  ∃ ao cap, v = .slice ao es.length cap ∧ es.length ≤ cap ∧ (ao = none → cap = 0) ∧ ∀ i, i < es.length → ∃ g o, ao = some ⟨g, o, none⟩ ∧ g < w.heap.size ∧ w.rangeAt g (o + i * 6) (oxL (oxN es i))
theorem RdX.later {w w' : World} {v : Value} {es : List (OX)} (h : RdX w v es) (hb : Below w.heap.size w w') : RdX w' v es := by
  obtain ⟨ao, cap, rfl, h1, h2, h3⟩ := h
  refine ⟨ao, cap, rfl, h1, h2, fun i hi => ?_⟩
  obtain ⟨g, o, e, lt, r⟩ := h3 i hi
  exact ⟨g, o, e, Nat.lt_of_lt_of_le lt hb.size, range_later r lt hb⟩
theorem infoX (e : OX) : (Try.prog.info? 28).map (·.size) = some (oxL e).length := by show _ = some 6; kernel_rfl
theorem oneX (e : OX) : ∀ v ∈ oxL e, v.oneCell' = true := fun v hv => by
  simp [oxL, OD] at hv
  rcases hv with rfl | rfl | rfl | rfl | rfl | rfl <;> rfl


namespace OxM
def oxsL (es : List (OX)) : List Value := es.flatMap oxL
theorem oxsL_len : ∀ es : List (OX), (oxsL es).length = es.length * 6
  | [] => rfl
  | e :: r => by
    have := oxsL_len r
    simp only [oxsL, List.flatMap_cons, List.length_append, List.length_cons] at this ⊢
    simp only [List.length_nil]; omega
theorem oxsL_append (es fs : List (OX)) : oxsL (es ++ fs) = oxsL es ++ oxsL fs := by simp [oxsL]
theorem oxsL_one (es : List (OX)) : ∀ v ∈ oxsL es, v.oneCell' = true := fun v hv => by
  obtain ⟨e, _, h⟩ := List.mem_flatMap.1 hv
  simp [oxL, OD] at h
  rcases h with rfl | rfl | rfl | rfl | rfl | rfl <;> rfl
theorem oxsL_at : ∀ (es : List (OX)) (i j : Nat), i < es.length → j < 6 → (oxsL es)[i * 6 + j]? = (oxL (oxN es i))[j]?
  | e :: r, 0, j, _, hj => by
    rw [Nat.zero_mul, Nat.zero_add]
    show (oxL e ++ oxsL r)[j]? = _
    rw [List.getElem?_append_left (by simpa [oxL, OD] using hj)]; rfl
  | e :: r, i + 1, j, h, hj => by
    have ih := oxsL_at r i j (by simpa using h) hj
    show (oxL e ++ oxsL r)[(i + 1) * 6 + j]? = _
    rw [List.getElem?_append_right (by simp [oxL, OD]; omega)]
    rw [show (i + 1) * 6 + j - (oxL e).length = i * 6 + j from by simp [oxL, OD]; omega, ih]
    rfl
theorem oxL_get (e : OX) (j : Nat) (v : Value) (h : (oxL e)[j]? = some v) : j < 6 := (List.getElem?_eq_some_iff.1 h).1
end OxM

/-- A row of entries that lies among blocks from 'base' on. -/
abbrev RowX (base : Nat) (w : World) (v : Value) (es : List (OX)) : Prop := w.ownsRow base 28 6 v es.length (oxsL es)
theorem RowX.nil (base : Nat) (w : World) : RowX base w (.slice none 0 0) [] := World.ownsRow_nil _ _ _ _
theorem RowX.later {base : Nat} {w w' : World} {v : Value} {es : List (OX)} (h : RowX base w v es) (hb : Below w.heap.size w w') : RowX base w' v es := by
  refine World.ownsRow.kept h (row := none) ⟨hb.os, hb.tape, hb.output, hb.size, fun k hk _ => hb.block k hk⟩ ?_
  cases hv : v.ownBlock <;> simp
theorem RowX.kept {base : Nat} {w w' : World} {v : Value} {row : Option Nat} {es : List (OX)} (h : RowX base w v es) (hb : w.grownBy w' row) (hn : ∀ g, v.ownBlock = some g → row ≠ some g) : RowX base w' v es := by
  refine World.ownsRow.kept h hb ?_
  cases hv : v.ownBlock with
  | none => exact .inl rfl
  | some g => exact .inr fun e => hn g hv e.symm
theorem RowX.mono {base base' : Nat} {w : World} {v : Value} {es : List (OX)} (h : RowX base w v es) (hb : base' ≤ base) : RowX base' w v es := by
  refine ⟨h.1, ?_⟩
  rcases h.2 with hn | ⟨g, cap, cur, hv, hg, rest⟩
  · exact .inl hn
  · exact .inr ⟨g, cap, cur, hv, Nat.le_trans hb hg, rest⟩
theorem RowX.ge {base : Nat} {w : World} {v : Value} {es : List (OX)} (h : RowX base w v es) {g : Nat} (hg : v.ownBlock = some g) : base ≤ g := (World.ownsRow.lt h g hg).1
theorem RowX.lt {base : Nat} {w : World} {v : Value} {es : List (OX)} (h : RowX base w v es) {g : Nat} (hg : v.ownBlock = some g) : g < w.heap.size := (World.ownsRow.lt h g hg).2
theorem RowX.rd {base : Nat} {w : World} {v : Value} {es : List (OX)} (h : RowX base w v es) : RdX w v es := by
  have hc := fun (g : Nat) (hg : v.ownBlock = some g) => World.ownsRow.cells h hg
  have hlt := fun (g : Nat) (hg : v.ownBlock = some g) => h.lt hg
  rcases h.2 with ⟨hv, h0⟩ | ⟨g, cap, cur, rfl, hb, hg, hn, hm, hcs, htk⟩
  · have e0 : es = [] := List.eq_nil_of_length_eq_zero h0
    subst e0
    exact ⟨none, 0, hv, Nat.le_refl _, fun _ => rfl, fun i hi => by simp at hi⟩
  · refine ⟨some ⟨g, 0, none⟩, cap, rfl, hn, (fun h => by cases h), fun i hi => ⟨g, 0, rfl, hlt g rfl, fun j v hv => ?_⟩⟩
    have hj := oxL_get _ _ _ hv
    have := hc g rfl (i * 6 + j) v (by rw [oxsL_at es i j hi hj]; exact hv)
    have hadd : (⟨g, 0, none⟩ : Addr).add (i * 6 + j) = ⟨g, i * 6 + j, none⟩ := by unfold Addr.add; split <;> simp_all
    rw [hadd] at this
    rw [Nat.zero_add]
    exact this
theorem infoX3 : (Try.prog.info? 28).map (fun i => (i.zero, i.size, i.bytes)) = some (some (.agg #[.int .i64 0, .bool false, .int .i64 0, .int .i64 0, .int .i64 0, .slice none 0 0]), 6, 64) := by kernel_rfl

theorem wpList_catX {wr : World} {ops : Array Oper} {rest : List Oper} {o : Oper} {a : Act} {Q : Exit → Act → World → Prop} (hgd : o.guard = none) (s x : Operand)
    (ho : o.op = .call { callee := .builtin .append, args := #[s, x], argTypes := #[23, 23] })
    (base : Nat) (v v2 : Value) (es fs : List (OX)) (hs : a.eval s = v) (hown : RowX base wr v es) (hsz : base ≤ wr.heap.size)
    (hx : a.eval x = v2) (hr : RdX wr v2 fs) (hl : es.length + fs.length ≤ 1000000000000)
    (h : ∀ v' w', RowX base w' v' (es ++ fs) → wr.grownBy w' v.ownBlock → wpList Try.prog ops Q rest (a.put o.dst v') w') :
    wpList Try.prog ops Q (o :: rest) a wr := by
  obtain ⟨i, hi, hz, hsize, hby⟩ := info_parts infoX3
  have ht := Try.underlying23
  obtain ⟨ao, cap, rfl, h1, h2, h3⟩ := hr
  have hml : es.length + fs.length ≤ maxLen := by unfold maxLen; omega
  have fin : ∀ v' w', w'.ownsRow base 28 6 v' (es.length + fs.length) (oxsL es ++ oxsL fs) → wr.grownBy w' v.ownBlock → wpList Try.prog ops Q rest (a.put o.dst v') w' := fun v' w' r g => by
    refine h v' w' ?_ g
    unfold RowX
    rw [List.length_append, oxsL_append]
    exact r
  by_cases hu : fs.length = 0
  · obtain rfl : fs = [] := List.eq_nil_of_length_eq_zero hu
    cases ao with
    | none =>
      obtain rfl := h2 rfl
      have hr : ∀ ty, (Builtin.append_ #[23, 23] ty #[v, .slice none 0 0]).run Try.prog wr = .ok v wr := fun ty => run_append_owned_none (P := Try.prog) wr base 23 ty 28 i 6 ht hi v es.length (oxsL es) hown
      refine wpList_plain hgd fun K hK => ?_
      unfold Oper.wp execOp
      simp only [ho, resolve, invoke, builtin, Sem.run_bind, Sem.run_pure, Result.andThen_ok, List.map_toArray, List.map_cons, List.map_nil, hs, hx, List.length_nil, hr]
      exact hK _ _ (h _ _ (by simpa using hown) (grownBy_refl _ _))
    | some ad =>
      refine wpList_append_own _ hgd s x 23 ho base 28 i _ 6 64 ht hi hz hsize hby rfl (by decide) v es.length (oxsL es) hs hown ad 0 cap [] hx (by simp) (by simp) (by simp) (by simpa using hml) (by simp at hl ⊢; omega) hsz ?_
      intro v' w' hown' hgrow _
      exact fin v' w' (by simpa [oxsL] using hown') hgrow
  · obtain ⟨g, off, rfl, lt, _⟩ := h3 0 (by omega)
    refine wpList_append_own _ hgd s x 23 ho base 28 i _ 6 64 ht hi hz hsize hby rfl (by decide) v es.length (oxsL es) hs hown ⟨g, off, none⟩ fs.length cap (oxsL fs) hx (oxsL_len fs) ?_ (oxsL_one fs) hml (by omega) hsz ?_
    · intro j u hj
      have hjl : j < fs.length * 6 := by have := (List.getElem?_eq_some_iff.1 hj).1; rwa [oxsL_len] at this
      obtain ⟨g', o', e1, _, hc⟩ := h3 (j / 6) (by omega)
      cases e1
      have hadd : (⟨g, off, none⟩ : Addr).add j = ⟨g, off + j, none⟩ := by unfold Addr.add; split <;> simp_all
      have hd : j = j / 6 * 6 + j % 6 := by omega
      have ha := oxsL_at fs (j / 6) (j % 6) (by omega) (by omega)
      rw [← hd, hj] at ha
      have := hc (j % 6) u ha.symm
      rw [show off + j / 6 * 6 + j % 6 = off + j from by omega] at this
      rw [hadd]; exact this
    · intro v' w' hown' hgrow _
      exact fin v' w' hown' hgrow

/-- One entry in a new block. -/
theorem RdX.one (w : World) (e : OX) : RdX (w.alloc (.cells (oxL e).toArray 28)) (.slice (some ⟨w.heap.size, 0, none⟩) 1 1) [e] := by
  refine ⟨_, _, rfl, Nat.le_refl _, (fun h => by cases h), fun i hi => ?_⟩
  obtain rfl : i = 0 := by simpa using hi
  exact ⟨_, _, rfl, by simp, (Blk.new 28 (oxL e) w).all⟩
end Go.Proofs.Ytiefnomldfhhnaa

namespace Go.Proofs.Ytiefnomldfhhnaa
open Go.RowKit OxM

theorem RdX.rdo {w : World} {v : Value} {l : List OX} (h : RdX w v l) (hd : ∀ q ∈ l, RdB w (.slice q.2.1 q.1.data.length q.2.2) q.1.data) : RdO w v (l.map (·.1)) := by
  obtain ⟨ao, cap, rfl, h1, h2, h3⟩ := h
  refine ⟨ao, cap, by rw [List.length_map], fun i o hi => ?_⟩
  have hl : i < l.length := by have := (List.getElem?_eq_some_iff.1 hi).1; rwa [List.length_map] at this
  obtain rfl : (l[i]).1 = o := by rw [List.getElem?_map, List.getElem?_eq_getElem hl] at hi; simpa using hi
  obtain ⟨g, off, e, lt, rg⟩ := h3 i hl
  rw [oxN_at hl] at rg
  exact ⟨g, off, (l[i]).2.1, (l[i]).2.2, e, lt, rg 0 _ rfl, rg 1 _ rfl, rg 2 _ rfl, rg 3 _ rfl, rg 4 _ rfl, rg 5 _ rfl, hd _ (List.getElem_mem hl)⟩
theorem RdO.rdx {w : World} {ao : Option Addr} {n cap : Nat} {os : List OpD} (h : RdO w (.slice ao n cap) os) (hc : n ≤ cap ∧ (ao = none → cap = 0)) : ∃ l : List OX, l.map (·.1) = os ∧ RdX w (.slice ao n cap) l ∧ ∀ q ∈ l, ∀ w', Below w.heap.size w w' → RdB w' (.slice q.2.1 q.1.data.length q.2.2) q.1.data := by
  obtain ⟨ao', cap', e, H⟩ := h
  injection e with e1 e2 e3
  subst e1 e2 e3
  have key : ∀ i, ∃ q : OX, (∀ o, os[i]? = some o → q.1 = o ∧ (∃ g off, ao = some ⟨g, off, none⟩ ∧ g < w.heap.size ∧ w.rangeAt g (off + i * 6) (oxL q)) ∧ RdB w (.slice q.2.1 q.1.data.length q.2.2) q.1.data) := fun i => by
    cases ho : os[i]? with
    | none => exact ⟨(⟨0, false, 0, 0, 0, []⟩, none, 0), fun o h => by cases h⟩
    | some o =>
      obtain ⟨g, off, x, c, e, lt, c0, c1, c2, c3, c4, c5, r⟩ := H i o ho
      exact ⟨(o, x, c), fun o' h => by cases h; exact ⟨rfl, ⟨g, off, e, lt, range6 c0 c1 c2 c3 c4 c5⟩, r⟩⟩
  let f := fun i => Classical.choose (key i)
  have hf := fun i => Classical.choose_spec (key i)
  have at_ : ∀ i, (hi : i < os.length) → (f i).1 = os[i] ∧ (∃ g off, ao = some ⟨g, off, none⟩ ∧ g < w.heap.size ∧ w.rangeAt g (off + i * 6) (oxL (f i))) ∧ RdB w (.slice (f i).2.1 (f i).1.data.length (f i).2.2) (f i).1.data := fun i hi => hf i _ (List.getElem?_eq_getElem hi)
  refine ⟨(List.range os.length).map f, ?_, ⟨ao, cap, by simp, by simpa using hc.1, hc.2, fun i hi => ?_⟩, fun q hq w' hb => ?_⟩
  · refine List.ext_getElem (by simp) (fun i h1 h2 => ?_)
    simp only [List.getElem_map, List.getElem_range]
    exact (at_ i h2).1
  · have hi' : i < os.length := by simpa using hi
    rw [show oxN ((List.range os.length).map f) i = f i from by simp [oxN, List.getD_eq_getElem?_getD, hi']]
    exact (at_ i hi').2.1
  · obtain ⟨i, hi, rfl⟩ := List.mem_map.1 hq
    exact Rd.later (at_ i (List.mem_range.1 hi)).2.2 hb
theorem RdX.two (w : World) (e f : OX) : RdX (w.alloc (.cells (oxL e ++ oxL f).toArray 28)) (.slice (some ⟨w.heap.size, 0, none⟩) 2 2) [e, f] := by
  have al := (Blk.new 28 (oxL e ++ oxL f) w).all
  refine ⟨_, _, rfl, Nat.le_refl _, (fun h => by cases h), fun i hi => ?_⟩
  have hi2 : i = 0 ∨ i = 1 := by simp at hi; omega
  rcases hi2 with rfl | rfl
  · refine ⟨_, _, rfl, by simp, fun j v hj => ?_⟩
    have hj6 := oxL_get _ _ _ hj
    have := al j v (by rw [List.getElem?_append_left (by simpa [oxL, OD] using hj6)]; exact hj)
    simpa using this
  · refine ⟨_, _, rfl, by simp, fun j v hj => ?_⟩
    have hj6 := oxL_get _ _ _ hj
    have := al (6 + j) v (by rw [List.getElem?_append_right (by simp [oxL, OD])]; rw [show 6 + j - (oxL e).length = j from by simp [oxL, OD]]; exact hj)
    simpa [Nat.add_assoc] using this
/-- The script so far, in memory of the call's own. -/
structure EX (w : World) (v : Value) (l : List OX) (wr : World) : Prop where
  b : Below w.heap.size w wr
  row : RowX w.heap.size wr v l
theorem EX.below {w w1 w2 : World} {v : Value} {l : List OX} (h : EX w v l w1) (b : Below w1.heap.size w1 w2) : EX w v l w2 := ⟨below_trans h.b b, h.row.later b⟩
theorem EX.push {w w1 w2 : World} {v v' : Value} {l m : List OX} (h : EX w v l w1) (r : RowX w.heap.size w2 v' m) (g : w1.grownBy w2 v.ownBlock) : EX w v' m w2 := ⟨h.b.grown g h.b.size (fun _ e => h.row.ge e), r⟩
theorem EX.two {w w1 : World} {v : Value} {l : List OX} (h : EX w v l w1) (o p : OX) : EX w v l (w1.alloc (.cells (oxL o ++ oxL p).toArray 28)) ∧ RdX (w1.alloc (.cells (oxL o ++ oxL p).toArray 28)) (.slice (some ⟨w1.heap.size, 0, none⟩) 2 2) [o, p] ∧ w.heap.size ≤ (w1.alloc (.cells (oxL o ++ oxL p).toArray 28)).heap.size := ⟨h.below (below_alloc _ _), RdX.two w1 o p, (below_trans h.b (below_alloc _ _)).size⟩

def xo (i : Nat) (b : Bool) : OX := (⟨6, b, (i : Int), 0, 0, []⟩, none, 0)
set_option maxRecDepth 20000 in
set_option maxHeartbeats 4000000 in
theorem dexact_any (fs ss : List Nat) (os : List OpD) (vf vs : Value) (ao : Option Addr) (n cap : Nat) (w : World) (hf : fs.length ≤ 1048576) (hs : ss.length ≤ 1048576) (hl : ∀ o ∈ os, o.data.length ≤ 1048576) (hn : os.length ≤ 1048576) (h1 : RdB w vf fs) (h2 : RdB w vs ss) (h3 : ∀ w', Below w.heap.size w w' → RdO w' (.slice ao n cap) os) (hc : n ≤ cap ∧ (ao = none → cap = 0)) :
    Calls Try.prog 7 #[vf, vs, .slice ao n cap] w fun e w' => e = .returned (.bool true) ∧ Below w.heap.size w w' := by
  obtain ⟨l0, hm, rx, df⟩ := RdO.rdx (h3 w (Below.refl _ _)) hc
  have L0 : Hid (l0.map (·.1) = os ∧ l0.length = os.length) := ⟨hm, by rw [← hm, List.length_map]⟩
  have hl0 : Hid (l0.length ≤ 1048576) := by show _ ≤ _; rw [L0.out.2]; exact hn
  have RX : Hid (RdX w (.slice ao n cap) l0) := rx
  have DF : Hid (∀ q ∈ l0, q.1.data.length ≤ 1048576 ∧ ∀ w', Below w.heap.size w w' → RdB w' (.slice q.2.1 q.1.data.length q.2.2) q.1.data) := fun q hq => ⟨hl _ (by rw [← hm]; exact List.mem_map.2 ⟨q, hq, rfl⟩), df q hq⟩
  have FA : Hid (∀ w', Calls Try.prog 9 #[] w' fun e w2 => ∃ v, e = .returned v ∧ RdO w2 v fallenL ∧ Below w'.heap.size w' w2) := fun w' => fallen_at w'
  have UF : Hid (∀ w' v, RdO w' v fallenL → Calls Try.prog 8 #[.slice none 0 0, .slice none 0 0, v, .int .i64 1, .int .i64 11] w' fun e w2 => e = .returned (.bool true) ∧ Below w'.heap.size w' w2) := fun w' v h => upTo_at [] [] fallenL _ _ v 1 11 w' (by simp) (by simp) fallen_ok (by show 17 ≤ _; omega) (RowV.nil 5 0 _).rd (RowV.nil 5 0 _).rd h
  have UG : Hid (∀ w' v (l : List OX), Below w.heap.size w w' → l.length ≤ 1048600 → (∀ q ∈ l, q.1.data.length ≤ 1048576 ∧ ∀ w', Below w.heap.size w w' → RdB w' (.slice q.2.1 q.1.data.length q.2.2) q.1.data) → RdX w' v l → Calls Try.prog 8 #[vf, vs, v, .int .i64 1, .int .i64 11] w' fun e w2 => e = .returned (.bool true) ∧ Below w'.heap.size w' w2) := fun w' v l b hll hd r => upTo_at fs ss (l.map (·.1)) vf vs v 1 11 w' hf hs (fun o ho => by obtain ⟨q, hq, rfl⟩ := List.mem_map.1 ho; exact (hd q hq).1) (by rw [List.length_map]; exact hll) (Rd.later h1 b) (Rd.later h2 b) (r.rdo (fun q hq => (hd q hq).2 w' b))
  clear hf hs hl hn h1 h2 h3 hc hm rx df
  have E0 : Hid (EX w (.slice none 0 0) [] w) := ⟨Below.refl _ _, World.ownsRow_nil _ _ _ _⟩
  have L1 : (([] : List OX).length + l0.length : Nat) ≤ 1000000000000 := by have := hl0.out; simp; omega
  go_enter Try.func7, Try.ntmps7
  go_upto_region 3 with (at_builtin; refine wpList_catX rfl _ _ rfl w.heap.size (.slice none 0 0) (.slice ao n cap) [] l0 rfl E0.out.row (Nat.le_refl _) rfl RX.out L1 ?_; intro v1 w1 r1 g1)
  have S1 : Hid (EX w v1 l0 w1) := E0.out.push r1 g1
  clear r1 g1 E0 RX L1
  go_wp2_with fail
  go_loopw [7, 8] (fun va vi wr => ∃ (i : Nat) (l : List OX), vi = .int .i64 (i : Int) ∧ i ≤ 2 ∧ Hid (l.length = l0.length + 2 * i ∧ (∀ q ∈ l, q.1.data.length ≤ 1048576 ∧ ∀ w', Below w.heap.size w w' → RdB w' (.slice q.2.1 q.1.data.length q.2.2) q.1.data) ∧ EX w va l wr)) (fun _ vi _ => 2 - (intOf vi).toNat)
  case atStart => exact ⟨0, l0, rfl, by omega, by omega, DF.out, S1.out⟩
  case round =>
    obtain ⟨i, l, rfl, hi, S⟩ := hrel
    by_cases hlt : (i : Int) < 2
    · have A3 : Hid (EX w u7 l (wr.alloc (.cells (oxL (xo i false) ++ oxL (xo i true)).toArray 28)) ∧ RdX (wr.alloc (.cells (oxL (xo i false) ++ oxL (xo i true)).toArray 28)) (.slice (some ⟨wr.heap.size, 0, none⟩) 2 2) [xo i false, xo i true] ∧ w.heap.size ≤ (wr.alloc (.cells (oxL (xo i false) ++ oxL (xo i true)).toArray 28)).heap.size) := S.out.2.2.two (xo i false) (xo i true)
      have L4 : l.length + [xo i false, xo i true].length ≤ 1000000000000 := by have := S.out.1; have := hl0.out; simp; omega
      go_upto_region 5 with (at_builtin; refine wpList_catX rfl _ _ rfl w.heap.size u7 (.slice (some ⟨wr.heap.size, 0, none⟩) 2 2) l [xo i false, xo i true] rfl A3.out.1.row A3.out.2.2 rfl A3.out.2.1 L4 ?_; intro v5 w5 r5 g5)
      have S5 : Hid ((l ++ [xo i false, xo i true]).length = l0.length + 2 * (i + 1) ∧ (∀ q ∈ l ++ [xo i false, xo i true], q.1.data.length ≤ 1048576 ∧ ∀ w', Below w.heap.size w w' → RdB w' (.slice q.2.1 q.1.data.length q.2.2) q.1.data) ∧ EX w v5 (l ++ [xo i false, xo i true]) w5) := ⟨by rw [List.length_append, S.out.1]; simp; omega, fun q hq => by
        rcases List.mem_append.1 hq with hq | hq
        · exact S.out.2.1 q hq
        · simp at hq
          rcases hq with rfl | rfl <;> exact ⟨by simp [xo], fun w' _ => (RowV.nil 5 0 w').rd⟩, A3.out.1.push r5 g5⟩
      clear r5 g5 A3 L4 S
      go_wp2_with fail
      go_roundw
      case rel => exact ⟨i + 1, _, by go_num, by omega, S5.out⟩
      case measure => simp [intOf]; omega
    · have E6 : Hid (EX w u7 l wr) := S.out.2.2
      go_wp2_with fail
      refine (FA.out _).mono ?_
      rintro e w1' ⟨v, rfl, r1, b1⟩
      have S2 : Hid (RdO w1' v fallenL ∧ EX w u7 l w1') := ⟨r1, E6.out.below b1⟩
      clear r1 b1 FA E6
      go_wp2_with fail
      refine (UF.out _ _ S2.out.1).mono ?_
      rintro e w2 ⟨rfl, b2⟩
      have S3 : Hid (EX w u7 l w2) := S2.out.2.below b2
      clear b2 S2 UF
      go_wp2_with fail
      refine (UG.out _ _ l S3.out.b (by have := S.out.1; have := hl0.out; omega) S.out.2.1 S3.out.row.rd).mono ?_
      rintro e w3 ⟨rfl, b3⟩
      have S4 : Hid (Below w.heap.size w w3) := below_trans S3.out.b b3
      clear b3 S3 UG S
      go_wp2_with fail
      go_ret
      exact ⟨rfl, S4.out⟩
end Go.Proofs.Ytiefnomldfhhnaa
