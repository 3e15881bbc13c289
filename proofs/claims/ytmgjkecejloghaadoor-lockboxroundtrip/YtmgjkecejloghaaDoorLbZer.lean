/-
  Ours: append(x, make([]T, 64)...) on a row of the call's own, of operations and of payments (after AgZer).
-/
import Derived.Test.YtmgjkecejloghaaDoorWirZeros
import Derived.Test.YtmgjkecejloghaaDoorLbUni
namespace Go.Proofs.YtmgjkecejloghaaDoor
open Go.RowKit
theorem zeros_oneO : ∀ v ∈ (Builtin.zeroCells (Value.agg #[.int .i64 0, .int .i64 0, .int .i64 0, .int .i64 0, .int .i64 0, .int .i64 0, .string ⟨#[]⟩]).cells 64).toList, v.oneCell' = true := by decide +kernel
theorem zeros_lenO : (Builtin.zeroCells (Value.agg #[.int .i64 0, .int .i64 0, .int .i64 0, .int .i64 0, .int .i64 0, .int .i64 0, .string ⟨#[]⟩]).cells 64).toList.length = 64 * 7 := by decide +kernel
theorem wpList_zerosO {wr : World} {ops : Array Oper} {rest : List Oper} {o : Oper} {a : Act} {Q : Exit → Act → World → Prop} (hgd : o.guard = none) (s x : Operand)
    (ho : o.op = .call { callee := .builtin .append, args := #[s, x], argTypes := #[31, 3] })
    (base : Nat) (v : Value) (n : Nat) (cs : List Value) (hs : a.eval s = v) (hown : wr.ownsRow base 35 7 v n cs) (hx : a.eval x = .int .i64 64) (hl : n ≤ 1000000)
    (h : ∀ ao cap w', wr.grownBy w' v.ownBlock → wpList Tryd.prog ops Q rest (a.put o.dst (.slice ao (n + 64) cap)) w') :
    wpList Tryd.prog ops Q (o :: rest) a wr := by
  obtain ⟨i, hi, hz, hsize, hby⟩ := info_parts (show (Tryd.prog.info? 35).map (fun i => (i.zero, i.size, i.bytes)) = some (some (Value.agg #[.int .i64 0, .int .i64 0, .int .i64 0, .int .i64 0, .int .i64 0, .int .i64 0, .string ⟨#[]⟩]), 7, 64) by kernel_rfl)
  have ht := Tryd.underlying31
  have htn := Tryd.underlying3
  have gd : ∀ (o : Obj), wr.grownBy (wr.drew.alloc o) v.ownBlock := fun o => by
    have := below_alloc wr o
    exact ⟨rfl, rfl, rfl, this.size, fun k hk _ => this.block k hk⟩
  rcases hown.2 with ⟨rfl, h0⟩ | ⟨g, cap, cur, rfl, hb, hg, hn, hm, hcs, htk⟩
  · subst h0
    have hr := Lib.run_append_nil_zeros (P := Tryd.prog) wr 31 3 o.type 35 i (Value.agg #[.int .i64 0, .int .i64 0, .int .i64 0, .int .i64 0, .int .i64 0, .int .i64 0, .string ⟨#[]⟩]) .i64 .i64 ht htn hi hz 64 (by decide) (by omega) (by decide) (by rw [hby]; decide)
    have h' : ∀ ao cap w', wr.grownBy w' (Value.slice none 0 0).ownBlock → wpList Tryd.prog ops Q rest (a.put o.dst (.slice ao 64 cap)) w' := fun ao cap w' g => by have := h ao cap w' g; rwa [Nat.zero_add] at this
    exact Lib.wpList_append_run wr hgd s x 31 3 ho _ _ hs hx _ _ hr (h' _ _ _ (gd _))
  · by_cases hroom : n + 64 ≤ cap
    · have hst := run_storeCells_cells (P := Tryd.prog) g (0 + n * i.size) (Builtin.zeroCells (Value.agg #[.int .i64 0, .int .i64 0, .int .i64 0, .int .i64 0, .int .i64 0, .int .i64 0, .string ⟨#[]⟩]).cells 64).toList 0 wr (fun j hj => by
          rw [zeros_lenO] at hj
          have hj' : 0 + n * i.size + 0 + j < cur.size := by rw [hcs, hsize]; omega
          rw [cell_of_row wr g _ cur _ (0, 0) hg, Array.getElem?_eq_getElem hj']; rfl) (fun j hj => by simp [World.frozen?, hg]) zeros_oneO
      have hr : (Builtin.append_ #[31, 3] o.type #[.slice (some ⟨g, 0, none⟩) n cap, .int .i64 64]).run Tryd.prog wr = .ok (.slice (some ⟨g, 0, none⟩) (n + 64) cap) (wr.setCells g (0 + n * i.size) (Builtin.zeroCells (Value.agg #[.int .i64 0, .int .i64 0, .int .i64 0, .int .i64 0, .int .i64 0, .int .i64 0, .string ⟨#[]⟩]).cells 64).toList) := by
        have hw : IntKind.i64.wrap (64 : Int) = 64 := by decide
        simp only [Nat.add_zero] at hst
        simp [Builtin.append_, run_underlying ht, run_underlying htn, sizeOf, typeInfo, zeroValue, hi, hz, asInt, asIntOf, hw, hroom, hby, hsize, Addr.add_lit]
        rw [hsize] at hst
        simp at hst
        rw [hst]
        simp
      refine Lib.wpList_append_run wr hgd s x 31 3 ho _ _ hs hx _ _ hr (h _ _ _ ?_)
      exact setCells_grown g _ _ _
    · have hold : (Builtin.firstCells i.size n (.slice (some ⟨g, 0, none⟩) n cap)).run Tryd.prog wr.drew = .ok cs.toArray wr.drew :=
        run_firstCells_some (P := Tryd.prog) (w := wr.drew) i.size n ⟨g, 0, none⟩ n cap cs (by rw [hsize]; exact hown.1) (fun j u hj => World.ownsRow.cells hown rfl j u hj)
      have hr := Lib.run_append_grow_zeros (P := Tryd.prog) wr 31 3 o.type 35 i (Value.agg #[.int .i64 0, .int .i64 0, .int .i64 0, .int .i64 0, .int .i64 0, .int .i64 0, .string ⟨#[]⟩]) .i64 .i64 ht htn hi hz (some ⟨g, 0, none⟩) n cap cs hold 64 (by decide) (by omega) (by omega) (by omega) (by rw [hby]; decide) (by rw [hby]; exact growslice_fits (by omega) (by omega))
      exact Lib.wpList_append_run wr hgd s x 31 3 ho _ _ hs hx _ _ hr (h _ _ _ (gd _))
theorem zeros_oneI : ∀ v ∈ (Builtin.zeroCells (Value.agg #[.int .i64 0, .int .i64 0]).cells 64).toList, v.oneCell' = true := by decide +kernel
theorem zeros_lenI : (Builtin.zeroCells (Value.agg #[.int .i64 0, .int .i64 0]).cells 64).toList.length = 64 * 2 := by decide +kernel
theorem wpList_zerosI {wr : World} {ops : Array Oper} {rest : List Oper} {o : Oper} {a : Act} {Q : Exit → Act → World → Prop} (hgd : o.guard = none) (s x : Operand)
    (ho : o.op = .call { callee := .builtin .append, args := #[s, x], argTypes := #[22, 3] })
    (base : Nat) (v : Value) (n : Nat) (cs : List Value) (hs : a.eval s = v) (hown : wr.ownsRow base 43 2 v n cs) (hx : a.eval x = .int .i64 64) (hl : n ≤ 1000000)
    (h : ∀ ao cap w', wr.grownBy w' v.ownBlock → wpList Tryd.prog ops Q rest (a.put o.dst (.slice ao (n + 64) cap)) w') :
    wpList Tryd.prog ops Q (o :: rest) a wr := by
  obtain ⟨i, hi, hz, hsize, hby⟩ := info_parts (show (Tryd.prog.info? 43).map (fun i => (i.zero, i.size, i.bytes)) = some (some (Value.agg #[.int .i64 0, .int .i64 0]), 2, 16) by kernel_rfl)
  have ht := Tryd.underlying22
  have htn := Tryd.underlying3
  have gd : ∀ (o : Obj), wr.grownBy (wr.drew.alloc o) v.ownBlock := fun o => by
    have := below_alloc wr o
    exact ⟨rfl, rfl, rfl, this.size, fun k hk _ => this.block k hk⟩
  rcases hown.2 with ⟨rfl, h0⟩ | ⟨g, cap, cur, rfl, hb, hg, hn, hm, hcs, htk⟩
  · subst h0
    have hr := Lib.run_append_nil_zeros (P := Tryd.prog) wr 22 3 o.type 43 i (Value.agg #[.int .i64 0, .int .i64 0]) .i64 .i64 ht htn hi hz 64 (by decide) (by omega) (by decide) (by rw [hby]; decide)
    have h' : ∀ ao cap w', wr.grownBy w' (Value.slice none 0 0).ownBlock → wpList Tryd.prog ops Q rest (a.put o.dst (.slice ao 64 cap)) w' := fun ao cap w' g => by have := h ao cap w' g; rwa [Nat.zero_add] at this
    exact Lib.wpList_append_run wr hgd s x 22 3 ho _ _ hs hx _ _ hr (h' _ _ _ (gd _))
  · by_cases hroom : n + 64 ≤ cap
    · have hst := run_storeCells_cells (P := Tryd.prog) g (0 + n * i.size) (Builtin.zeroCells (Value.agg #[.int .i64 0, .int .i64 0]).cells 64).toList 0 wr (fun j hj => by
          rw [zeros_lenI] at hj
          have hj' : 0 + n * i.size + 0 + j < cur.size := by rw [hcs, hsize]; omega
          rw [cell_of_row wr g _ cur _ (0, 0) hg, Array.getElem?_eq_getElem hj']; rfl) (fun j hj => by simp [World.frozen?, hg]) zeros_oneI
      have hr : (Builtin.append_ #[22, 3] o.type #[.slice (some ⟨g, 0, none⟩) n cap, .int .i64 64]).run Tryd.prog wr = .ok (.slice (some ⟨g, 0, none⟩) (n + 64) cap) (wr.setCells g (0 + n * i.size) (Builtin.zeroCells (Value.agg #[.int .i64 0, .int .i64 0]).cells 64).toList) := by
        have hw : IntKind.i64.wrap (64 : Int) = 64 := by decide
        simp only [Nat.add_zero] at hst
        simp [Builtin.append_, run_underlying ht, run_underlying htn, sizeOf, typeInfo, zeroValue, hi, hz, asInt, asIntOf, hw, hroom, hby, hsize, Addr.add_lit]
        rw [hsize] at hst
        simp at hst
        rw [hst]
        simp
      refine Lib.wpList_append_run wr hgd s x 22 3 ho _ _ hs hx _ _ hr (h _ _ _ ?_)
      exact setCells_grown g _ _ _
    · have hold : (Builtin.firstCells i.size n (.slice (some ⟨g, 0, none⟩) n cap)).run Tryd.prog wr.drew = .ok cs.toArray wr.drew :=
        run_firstCells_some (P := Tryd.prog) (w := wr.drew) i.size n ⟨g, 0, none⟩ n cap cs (by rw [hsize]; exact hown.1) (fun j u hj => World.ownsRow.cells hown rfl j u hj)
      have hr := Lib.run_append_grow_zeros (P := Tryd.prog) wr 22 3 o.type 43 i (Value.agg #[.int .i64 0, .int .i64 0]) .i64 .i64 ht htn hi hz (some ⟨g, 0, none⟩) n cap cs hold 64 (by decide) (by omega) (by omega) (by omega) (by rw [hby]; decide) (by rw [hby]; exact growslice_fits (by omega) (by omega))
      exact Lib.wpList_append_run wr hgd s x 22 3 ho _ _ hs hx _ _ hr (h _ _ _ (gd _))
end Go.Proofs.YtmgjkecejloghaaDoor
