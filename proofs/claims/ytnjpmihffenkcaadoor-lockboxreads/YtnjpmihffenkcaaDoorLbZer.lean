/-
  Ours: append(x, make([]T, 64)...) on a row of the call's own, of operations and of payments (after AgZer).
-/
import Derived.Test.YtnjpmihffenkcaaDoorWirOwn
import Derived.Lib.AppendZerosOnto
import Derived.Laws.IdiomCopy
import Derived.Test.YtnjpmihffenkcaaDoorLbUni
namespace Go.Proofs.YtnjpmihffenkcaaDoor
open Go.RowKit

theorem setCells_grown (g : Nat) : ∀ (news : List Value) (o : Nat) (w : World), w.grownBy (w.setCells g o news) (some g)
  | [], _, w => grownBy_refl w _
  | u :: news, o, w => by
    have h1 : w.grownBy (w.setCell ⟨g, o, none⟩ u) (some g) := ⟨rfl, rfl, rfl, Nat.le_of_eq (by simp), fun k _ hk => Below.heap_setCell _ _ _ _ (fun e => hk (by rw [e]))⟩
    exact grownBy_trans h1 (setCells_grown g news (o + 1) _)

theorem zeros_one : ∀ v ∈ (Builtin.zeroCells (Value.int .u8 0).cells 64).toList, v.oneCell' = true := by
  intro u hu
  simp [Builtin.zeroCells, Value.cells] at hu
  obtain ⟨a, _, rfl⟩ := hu
  have : a % 1 = 0 := by omega
  simp [this]; rfl

theorem wpList_zerosB {P : Program} {wr : World} {ops : Array Oper} {rest : List Oper} {o : Oper} {a : Act} {Q : Exit → Act → World → Prop} (hgd : o.guard = none) (s x : Operand) (t tn : TypeId) (kn : IntKind)
    (ho : o.op = .call { callee := .builtin .append, args := #[s, x], argTypes := #[t, tn] })
    (e : TypeId) (i : TypeInfo) (ht : P.underlying t = some (.slice e)) (htn : P.underlying tn = some (.int kn)) (hi : P.info? e = some i) (hz : i.zero = some (.int .u8 0)) (hsize : i.size = 1) (hby : i.bytes = 1)
    (base : Nat) (v : Value) (vs : List Value) (hs : a.eval s = v) (hown : RowV e base wr v vs) (hx : a.eval x = .int .i64 64) (hl : vs.length + 64 ≤ 140737488355328)
    (h : ∀ ao cap w', wr.grownBy w' v.ownBlock → wpList P ops Q rest (a.put o.dst (.slice ao (vs.length + 64) cap)) w') :
    wpList P ops Q (o :: rest) a wr := by
  have gd : ∀ (o : Obj), wr.grownBy (wr.drew.alloc o) v.ownBlock := fun o => by
    have := below_alloc wr o
    exact ⟨rfl, rfl, rfl, this.size, fun k hk _ => this.block k hk⟩
  rcases hown.2 with ⟨rfl, h0⟩ | ⟨g, cap, cur, rfl, hb, hg, hn, hm, hcs, htk⟩
  · have x0 : vs = [] := List.eq_nil_of_length_eq_zero h0
    subst x0
    have hr := Lib.run_append_nil_zeros (P := P) wr t tn o.type e i (.int .u8 0) .i64 kn ht htn hi hz 64 (by decide) (by omega) (by decide) (by rw [hby]; decide)
    exact Lib.wpList_append_run wr hgd s x t tn ho _ _ hs hx _ _ hr (h _ _ _ (gd _))
  · by_cases hroom : vs.length + 64 ≤ cap
    · have hzl : (Builtin.zeroCells (Value.int .u8 0).cells 64).toList.length = 64 := by simp [size_zeroCells, Value.cells]
      have hst := run_storeCells_cells (P := P) g (0 + vs.length * i.size) (Builtin.zeroCells (Value.int .u8 0).cells 64).toList 0 wr (fun j hj => by
          have hj' : 0 + vs.length * i.size + 0 + j < cur.size := by rw [hcs, hsize]; omega
          rw [cell_of_row wr g _ cur _ (0, 0) hg, Array.getElem?_eq_getElem hj']; rfl) (fun j hj => by simp [World.frozen?, hg]) zeros_one
      have hr : (Builtin.append_ #[t, tn] o.type #[.slice (some ⟨g, 0, none⟩) vs.length cap, .int .i64 64]).run P wr = .ok (.slice (some ⟨g, 0, none⟩) (vs.length + 64) cap) (wr.setCells g (0 + vs.length * i.size) (Builtin.zeroCells (Value.int .u8 0).cells 64).toList) := by
        have hw : IntKind.i64.wrap (64 : Int) = 64 := by decide
        simp only [Nat.add_zero] at hst
        simp [Builtin.append_, run_underlying ht, run_underlying htn, sizeOf, typeInfo, zeroValue, hi, hz, asInt, asIntOf, hw, hroom, hby, hsize, Addr.add_lit]
        rw [hsize] at hst
        simp at hst
        rw [hst]
        simp
      refine Lib.wpList_append_run wr hgd s x t tn ho _ _ hs hx _ _ hr (h _ _ _ ?_)
      exact setCells_grown g _ _ _
    · have hold : (Builtin.firstCells i.size vs.length (.slice (some ⟨g, 0, none⟩) vs.length cap)).run P wr.drew = .ok vs.toArray wr.drew :=
        run_firstCells_some (P := P) (w := wr.drew) i.size vs.length ⟨g, 0, none⟩ vs.length cap vs (by rw [hsize]; simp) (fun j u hj => World.ownsRow.cells hown rfl j u hj)
      have hr := Lib.run_append_grow_zeros (P := P) wr t tn o.type e i (.int .u8 0) .i64 kn ht htn hi hz (some ⟨g, 0, none⟩) vs.length cap vs hold 64 (by decide) (by omega) (by omega) (by omega) (by rw [hby]; decide) (by rw [hby]; exact growslice_fits (by omega) (by omega))
      exact Lib.wpList_append_run wr hgd s x t tn ho _ _ hs hx _ _ hr (h _ _ _ (gd _))
end Go.Proofs.YtnjpmihffenkcaaDoor

namespace Go.Proofs.YtnjpmihffenkcaaDoor
open Go.RowKit
theorem zeros_oneO : ∀ v ∈ (Builtin.zeroCells (Value.agg #[.int .i64 0, .int .i64 0, .int .i64 0, .int .i64 0, .int .i64 0, .int .i64 0, .string ⟨#[]⟩]).cells 64).toList, v.oneCell' = true := by decide +kernel
theorem zeros_lenO : (Builtin.zeroCells (Value.agg #[.int .i64 0, .int .i64 0, .int .i64 0, .int .i64 0, .int .i64 0, .int .i64 0, .string ⟨#[]⟩]).cells 64).toList.length = 64 * 7 := by decide +kernel
theorem wpList_zerosO {wr : World} {ops : Array Oper} {rest : List Oper} {o : Oper} {a : Act} {Q : Exit → Act → World → Prop} (hgd : o.guard = none) (s x : Operand)
    (ho : o.op = .call { callee := .builtin .append, args := #[s, x], argTypes := #[31, 3] })
    (base : Nat) (v : Value) (n : Nat) (cs : List Value) (hs : a.eval s = v) (hown : wr.ownsRow base 35 7 v n cs) (hx : a.eval x = .int .i64 64) (hl : n ≤ 1000000)
    (h : ∀ ao cap w', wr.grownBy w' v.ownBlock → wpList Tryd.prog ops Q rest (a.put o.dst (.slice ao (n + 64) cap)) w') :
    wpList Tryd.prog ops Q (o :: rest) a wr := by
  obtain ⟨i, hi, hz, hsize, hby⟩ := info_parts (show (Tryd.prog.info? 35).map (fun i => (i.zero, i.size, i.bytes)) = some (some (Value.agg #[.int .i64 0, .int .i64 0, .int .i64 0, .int .i64 0, .int .i64 0, .int .i64 0, .string ⟨#[]⟩]), 7, 64) by kernel_rfl)
  have ht := Tryd.underlying31
  have htn := Tryd.underlying3
  have gd : ∀ (o : Obj), wr.grownBy (wr.drew.alloc o) v.ownBlock := fun o => by
    have := below_alloc wr o
    exact ⟨rfl, rfl, rfl, this.size, fun k hk _ => this.block k hk⟩
  rcases hown.2 with ⟨rfl, h0⟩ | ⟨g, cap, cur, rfl, hb, hg, hn, hm, hcs, htk⟩
  · subst h0
    have hr := Lib.run_append_nil_zeros (P := Tryd.prog) wr 31 3 o.type 35 i (Value.agg #[.int .i64 0, .int .i64 0, .int .i64 0, .int .i64 0, .int .i64 0, .int .i64 0, .string ⟨#[]⟩]) .i64 .i64 ht htn hi hz 64 (by decide) (by omega) (by decide) (by rw [hby]; decide)
    have h' : ∀ ao cap w', wr.grownBy w' (Value.slice none 0 0).ownBlock → wpList Tryd.prog ops Q rest (a.put o.dst (.slice ao 64 cap)) w' := fun ao cap w' g => by have := h ao cap w' g; rwa [Nat.zero_add] at this
    exact Lib.wpList_append_run wr hgd s x 31 3 ho _ _ hs hx _ _ hr (h' _ _ _ (gd _))
  · by_cases hroom : n + 64 ≤ cap
    · have hst := run_storeCells_cells (P := Tryd.prog) g (0 + n * i.size) (Builtin.zeroCells (Value.agg #[.int .i64 0, .int .i64 0, .int .i64 0, .int .i64 0, .int .i64 0, .int .i64 0, .string ⟨#[]⟩]).cells 64).toList 0 wr (fun j hj => by
          rw [zeros_lenO] at hj
          have hj' : 0 + n * i.size + 0 + j < cur.size := by rw [hcs, hsize]; omega
          rw [cell_of_row wr g _ cur _ (0, 0) hg, Array.getElem?_eq_getElem hj']; rfl) (fun j hj => by simp [World.frozen?, hg]) zeros_oneO
      have hr : (Builtin.append_ #[31, 3] o.type #[.slice (some ⟨g, 0, none⟩) n cap, .int .i64 64]).run Tryd.prog wr = .ok (.slice (some ⟨g, 0, none⟩) (n + 64) cap) (wr.setCells g (0 + n * i.size) (Builtin.zeroCells (Value.agg #[.int .i64 0, .int .i64 0, .int .i64 0, .int .i64 0, .int .i64 0, .int .i64 0, .string ⟨#[]⟩]).cells 64).toList) := by
        have hw : IntKind.i64.wrap (64 : Int) = 64 := by decide
        simp only [Nat.add_zero] at hst
        simp [Builtin.append_, run_underlying ht, run_underlying htn, sizeOf, typeInfo, zeroValue, hi, hz, asInt, asIntOf, hw, hroom, hby, hsize, Addr.add_lit]
        rw [hsize] at hst
        simp at hst
        rw [hst]
        simp
      refine Lib.wpList_append_run wr hgd s x 31 3 ho _ _ hs hx _ _ hr (h _ _ _ ?_)
      exact setCells_grown g _ _ _
    · have hold : (Builtin.firstCells i.size n (.slice (some ⟨g, 0, none⟩) n cap)).run Tryd.prog wr.drew = .ok cs.toArray wr.drew :=
        run_firstCells_some (P := Tryd.prog) (w := wr.drew) i.size n ⟨g, 0, none⟩ n cap cs (by rw [hsize]; exact hown.1) (fun j u hj => World.ownsRow.cells hown rfl j u hj)
      have hr := Lib.run_append_grow_zeros (P := Tryd.prog) wr 31 3 o.type 35 i (Value.agg #[.int .i64 0, .int .i64 0, .int .i64 0, .int .i64 0, .int .i64 0, .int .i64 0, .string ⟨#[]⟩]) .i64 .i64 ht htn hi hz (some ⟨g, 0, none⟩) n cap cs hold 64 (by decide) (by omega) (by omega) (by omega) (by rw [hby]; decide) (by rw [hby]; exact growslice_fits (by omega) (by omega))
      exact Lib.wpList_append_run wr hgd s x 31 3 ho _ _ hs hx _ _ hr (h _ _ _ (gd _))
theorem zeros_oneI : ∀ v ∈ (Builtin.zeroCells (Value.agg #[.int .i64 0, .int .i64 0]).cells 64).toList, v.oneCell' = true := by decide +kernel
theorem zeros_lenI : (Builtin.zeroCells (Value.agg #[.int .i64 0, .int .i64 0]).cells 64).toList.length = 64 * 2 := by decide +kernel
theorem wpList_zerosI {wr : World} {ops : Array Oper} {rest : List Oper} {o : Oper} {a : Act} {Q : Exit → Act → World → Prop} (hgd : o.guard = none) (s x : Operand)
    (ho : o.op = .call { callee := .builtin .append, args := #[s, x], argTypes := #[22, 3] })
    (base : Nat) (v : Value) (n : Nat) (cs : List Value) (hs : a.eval s = v) (hown : wr.ownsRow base 43 2 v n cs) (hx : a.eval x = .int .i64 64) (hl : n ≤ 1000000)
    (h : ∀ ao cap w', wr.grownBy w' v.ownBlock → wpList Tryd.prog ops Q rest (a.put o.dst (.slice ao (n + 64) cap)) w') :
    wpList Tryd.prog ops Q (o :: rest) a wr := by
  obtain ⟨i, hi, hz, hsize, hby⟩ := info_parts (show (Tryd.prog.info? 43).map (fun i => (i.zero, i.size, i.bytes)) = some (some (Value.agg #[.int .i64 0, .int .i64 0]), 2, 16) by kernel_rfl)
  have ht := Tryd.underlying22
  have htn := Tryd.underlying3
  have gd : ∀ (o : Obj), wr.grownBy (wr.drew.alloc o) v.ownBlock := fun o => by
    have := below_alloc wr o
    exact ⟨rfl, rfl, rfl, this.size, fun k hk _ => this.block k hk⟩
  rcases hown.2 with ⟨rfl, h0⟩ | ⟨g, cap, cur, rfl, hb, hg, hn, hm, hcs, htk⟩
  · subst h0
    have hr := Lib.run_append_nil_zeros (P := Tryd.prog) wr 22 3 o.type 43 i (Value.agg #[.int .i64 0, .int .i64 0]) .i64 .i64 ht htn hi hz 64 (by decide) (by omega) (by decide) (by rw [hby]; decide)
    have h' : ∀ ao cap w', wr.grownBy w' (Value.slice none 0 0).ownBlock → wpList Tryd.prog ops Q rest (a.put o.dst (.slice ao 64 cap)) w' := fun ao cap w' g => by have := h ao cap w' g; rwa [Nat.zero_add] at this
    exact Lib.wpList_append_run wr hgd s x 22 3 ho _ _ hs hx _ _ hr (h' _ _ _ (gd _))
  · by_cases hroom : n + 64 ≤ cap
    · have hst := run_storeCells_cells (P := Tryd.prog) g (0 + n * i.size) (Builtin.zeroCells (Value.agg #[.int .i64 0, .int .i64 0]).cells 64).toList 0 wr (fun j hj => by
          rw [zeros_lenI] at hj
          have hj' : 0 + n * i.size + 0 + j < cur.size := by rw [hcs, hsize]; omega
          rw [cell_of_row wr g _ cur _ (0, 0) hg, Array.getElem?_eq_getElem hj']; rfl) (fun j hj => by simp [World.frozen?, hg]) zeros_oneI
      have hr : (Builtin.append_ #[22, 3] o.type #[.slice (some ⟨g, 0, none⟩) n cap, .int .i64 64]).run Tryd.prog wr = .ok (.slice (some ⟨g, 0, none⟩) (n + 64) cap) (wr.setCells g (0 + n * i.size) (Builtin.zeroCells (Value.agg #[.int .i64 0, .int .i64 0]).cells 64).toList) := by
        have hw : IntKind.i64.wrap (64 : Int) = 64 := by decide
        simp only [Nat.add_zero] at hst
        simp [Builtin.append_, run_underlying ht, run_underlying htn, sizeOf, typeInfo, zeroValue, hi, hz, asInt, asIntOf, hw, hroom, hby, hsize, Addr.add_lit]
        rw [hsize] at hst
        simp at hst
        rw [hst]
        simp
      refine Lib.wpList_append_run wr hgd s x 22 3 ho _ _ hs hx _ _ hr (h _ _ _ ?_)
      exact setCells_grown g _ _ _
    · have hold : (Builtin.firstCells i.size n (.slice (some ⟨g, 0, none⟩) n cap)).run Tryd.prog wr.drew = .ok cs.toArray wr.drew :=
        run_firstCells_some (P := Tryd.prog) (w := wr.drew) i.size n ⟨g, 0, none⟩ n cap cs (by rw [hsize]; exact hown.1) (fun j u hj => World.ownsRow.cells hown rfl j u hj)
      have hr := Lib.run_append_grow_zeros (P := Tryd.prog) wr 22 3 o.type 43 i (Value.agg #[.int .i64 0, .int .i64 0]) .i64 .i64 ht htn hi hz (some ⟨g, 0, none⟩) n cap cs hold 64 (by decide) (by omega) (by omega) (by omega) (by rw [hby]; decide) (by rw [hby]; exact growslice_fits (by omega) (by omega))
      exact Lib.wpList_append_run wr hgd s x 22 3 ho _ _ hs hx _ _ hr (h _ _ _ (gd _))
end Go.Proofs.YtnjpmihffenkcaaDoor
