/-
  Ours: append(x, make([]T, 64)...) that leaves the row as it was.
-/
import Derived.Test.YtekejcpgoijoaabAgZer
namespace Go.Proofs.Ytekejcpgoijoaab
open Go.RowKit LedM AgM

theorem setCells_pastP {base g n cap : Nat} {vs : List Value} : ∀ (news : List Value) (o : Nat) (w : World), w.ownsRow base 32 4 (.slice (some ⟨g, 0, none⟩) n cap) n vs → n * 4 ≤ o →
    (w.setCells g o news).ownsRow base 32 4 (.slice (some ⟨g, 0, none⟩) n cap) n vs ∧ w.grownBy (w.setCells g o news) (some g)
  | [], _, w, h, _ => ⟨h, grownBy_refl w _⟩
  | u :: news, o, w, h, ho => by
    obtain ⟨h1, h2⟩ := World.ownsRow.stored h o u
    rw [List.set_eq_of_length_le (by rw [h.1]; exact ho)] at h1
    obtain ⟨h3, h4⟩ := setCells_pastP news (o + 1) _ h1 (by omega)
    exact ⟨h3, grownBy_trans h2 h4⟩

theorem wpList_zerosPK {wr : World} {ops : Array Oper} {rest : List Oper} {o : Oper} {a : Act} {Q : Exit → Act → World → Prop} (hgd : o.guard = none) (s x : Operand)
    (ho : o.op = .call { callee := .builtin .append, args := #[s, x], argTypes := #[22, 3] })
    (base : Nat) (v : Value) (n : Nat) (cs : List Value) (hs : a.eval s = v) (hown : wr.ownsRow base 32 4 v n cs) (hx : a.eval x = .int .i64 64) (hl : n ≤ 1000000)
    (h : ∀ ao cap w', wr.grownBy w' v.ownBlock → w'.ownsRow base 32 4 v n cs → wpList Try.prog ops Q rest (a.put o.dst (.slice ao (n + 64) cap)) w') :
    wpList Try.prog ops Q (o :: rest) a wr := by
  obtain ⟨i, hi, hz, hsize, hby⟩ := info_parts (show (Try.prog.info? 32).map (fun i => (i.zero, i.size, i.bytes)) = some (some (Value.agg #[.int .i64 0, .int .i64 0, .int .i64 0, .bool false]), 4, 32) by kernel_rfl)
  have ht := Try.underlying22
  have htn := Try.underlying3
  have gd : ∀ (o : Obj), wr.grownBy (wr.drew.alloc o) v.ownBlock := fun o => by
    have := below_alloc wr o
    exact ⟨rfl, rfl, rfl, this.size, fun k hk _ => this.block k hk⟩
  rcases hown.2 with ⟨rfl, h0⟩ | ⟨g, cap, cur, rfl, hb, hg, hn, hm, hcs, htk⟩
  · subst h0
    have hr := Lib.run_append_nil_zeros (P := Try.prog) wr 22 3 o.type 32 i (Value.agg #[.int .i64 0, .int .i64 0, .int .i64 0, .bool false]) .i64 .i64 ht htn hi hz 64 (by decide) (by omega) (by decide) (by rw [hby]; decide)
    have h' : ∀ ao cap w', wr.grownBy w' (Value.slice none 0 0).ownBlock → wpList Try.prog ops Q rest (a.put o.dst (.slice ao 64 cap)) w' := fun ao cap w' g => by have := h ao cap w' g (World.ownsRow.kept hown g (.inl rfl)); rwa [Nat.zero_add] at this
    exact Lib.wpList_append_run wr hgd s x 22 3 ho _ _ hs hx _ _ hr (h' _ _ _ (gd _))
  · by_cases hroom : n + 64 ≤ cap
    · have hst := run_storeCells_cells (P := Try.prog) g (0 + n * i.size) (Builtin.zeroCells (Value.agg #[.int .i64 0, .int .i64 0, .int .i64 0, .bool false]).cells 64).toList 0 wr (fun j hj => by
          rw [zeros_lenP] at hj
          have hj' : 0 + n * i.size + 0 + j < cur.size := by rw [hcs, hsize]; omega
          rw [cell_of_row wr g _ cur _ (0, 0) hg, Array.getElem?_eq_getElem hj']; rfl) (fun j hj => by simp [World.frozen?, hg]) zeros_oneP
      have hr : (Builtin.append_ #[22, 3] o.type #[.slice (some ⟨g, 0, none⟩) n cap, .int .i64 64]).run Try.prog wr = .ok (.slice (some ⟨g, 0, none⟩) (n + 64) cap) (wr.setCells g (0 + n * i.size) (Builtin.zeroCells (Value.agg #[.int .i64 0, .int .i64 0, .int .i64 0, .bool false]).cells 64).toList) := by
        have hw : IntKind.i64.wrap (64 : Int) = 64 := by decide
        simp only [Nat.add_zero] at hst
        simp [Builtin.append_, run_underlying ht, run_underlying htn, sizeOf, typeInfo, zeroValue, hi, hz, asInt, asIntOf, hw, hroom, hby, hsize, Addr.add_lit]
        rw [hsize] at hst
        simp at hst
        rw [hst]
        simp
      refine Lib.wpList_append_run wr hgd s x 22 3 ho _ _ hs hx _ _ hr (h _ _ _ (setCells_grown g _ _ _) ?_)
      exact (setCells_pastP _ (0 + n * i.size) wr hown (by rw [hsize]; omega)).1
    · have hold : (Builtin.firstCells i.size n (.slice (some ⟨g, 0, none⟩) n cap)).run Try.prog wr.drew = .ok cs.toArray wr.drew :=
        run_firstCells_some (P := Try.prog) (w := wr.drew) i.size n ⟨g, 0, none⟩ n cap cs (by rw [hsize]; exact hown.1) (fun j u hj => World.ownsRow.cells hown rfl j u hj)
      have hr := Lib.run_append_grow_zeros (P := Try.prog) wr 22 3 o.type 32 i (Value.agg #[.int .i64 0, .int .i64 0, .int .i64 0, .bool false]) .i64 .i64 ht htn hi hz (some ⟨g, 0, none⟩) n cap cs hold 64 (by decide) (by omega) (by omega) (by omega) (by rw [hby]; decide) (by rw [hby]; exact growslice_fits (by omega) (by omega))
      exact Lib.wpList_append_run wr hgd s x 22 3 ho _ _ hs hx _ _ hr (h _ _ _ (gd _) (by
        have hb := below_alloc wr (.cells (cs.toArray ++ Builtin.zeroCells (Value.agg #[.int .i64 0, .int .i64 0, .int .i64 0, .bool false]).cells 64 ++ Builtin.zeroCells (Value.agg #[.int .i64 0, .int .i64 0, .int .i64 0, .bool false]).cells (grownCap wr (n + 64) cap 32 - (n + 64))) 32)
        exact World.ownsRow.kept hown (row := none) ⟨rfl, rfl, rfl, hb.size, fun k hk _ => hb.block k hk⟩ (.inr (by simp [Value.ownBlock]))))
end Go.Proofs.Ytekejcpgoijoaab
