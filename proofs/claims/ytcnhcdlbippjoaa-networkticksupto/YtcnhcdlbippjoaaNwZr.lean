/-
  Ours: append(x, make([]byte, 64)...): the new row, and what becomes of the old.
-/
import Derived.Test.YtcnhcdlbippjoaaNwBk2
import Derived.Lib.AppendZerosOnto
import Derived.Laws.IdiomCopy
namespace Go.Proofs.Ytcnhcdlbippjoaa
open Go.RowKit NwM

theorem setCells_grownB (g : Nat) : ∀ (news : List Value) (o : Nat) (w : World), w.grownBy (w.setCells g o news) (some g)
  | [], _, w => grownBy_refl w _
  | u :: news, o, w => by
    have h1 : w.grownBy (w.setCell ⟨g, o, none⟩ u) (some g) := ⟨rfl, rfl, rfl, Nat.le_of_eq (by simp), fun k _ hk => Below.heap_setCell _ _ _ _ (fun e => hk (by rw [e]))⟩
    exact grownBy_trans h1 (setCells_grownB g news (o + 1) _)
theorem zeros_oneI : ∀ v ∈ (Builtin.zeroCells (Value.int .u8 0).cells 64).toList, v.oneCell' = true := by decide +kernel
theorem zeros_lenI : (Builtin.zeroCells (Value.int .u8 0).cells 64).toList.length = 64 * 1 := by decide +kernel
def z64 : List Value := List.replicate 64 (.int .u8 0)
theorem z64_eq : (Builtin.zeroCells (Value.int .u8 0).cells 64).toList = z64 := by kernel_rfl
theorem z64_len : z64.length = 64 := by simp [z64]
theorem setCells_row {base g n cap : Nat} {e : TypeId} : ∀ (news : List Value) (o : Nat) (w : World) (xs : List Value), w.ownsRow base e 1 (.slice (some ⟨g, 0, none⟩) n cap) n xs → o + news.length ≤ xs.length →
    (w.setCells g o news).ownsRow base e 1 (.slice (some ⟨g, 0, none⟩) n cap) n (xs.take o ++ news ++ xs.drop (o + news.length))
  | [], o, w, xs, h, _ => by
    have e0 : w.setCells g o [] = w := rfl
    rw [e0]; simpa using h
  | u :: news, o, w, xs, h, ho => by
    simp only [List.length_cons] at ho
    obtain ⟨h1, _⟩ := World.ownsRow.stored h o u
    have h3 := setCells_row news (o + 1) _ _ h1 (by simp; omega)
    have e1 : (xs.set o u).take (o + 1) = xs.take o ++ [u] := by
      rw [List.take_add_one, List.take_set_of_le (Nat.le_refl o), List.getElem?_set_self (by omega)]; rfl
    have e2 : (xs.set o u).drop (o + 1 + news.length) = xs.drop (o + (u :: news).length) := by
      rw [List.drop_set_of_lt (by omega)]; congr 1; simp; omega
    rw [e1, e2] at h3
    have e0 : w.setCells g o (u :: news) = (w.setCell ⟨g, o, none⟩ u).setCells g (o + 1) news := rfl
    rw [e0]; simpa using h3
theorem wpList_zerosR {wr : World} {ops : Array Oper} {rest : List Oper} {o : Oper} {a : Act} {Q : Exit → Act → World → Prop} (hgd : o.guard = none) (s x : Operand)
    (ho : o.op = .call { callee := .builtin .append, args := #[s, x], argTypes := #[31, 3] })
    (base : Nat) (v : Value) (vs : List Value) (hs : a.eval s = v) (hown : RowV 5 base wr v vs) (hsz : base ≤ wr.heap.size) (hx : a.eval x = .int .i64 64) (hl : vs.length ≤ 1000000000000)
    (h : ∀ ao n cap w', wr.grownBy w' v.ownBlock → RowV 5 base w' v vs → RowV 5 base w' (.slice ao n cap) (vs ++ z64) → (∀ g, (Value.slice ao n cap).ownBlock = some g → v.ownBlock = some g ∨ wr.heap.size ≤ g) → wpList Try.prog ops Q rest (a.put o.dst (.slice ao n cap)) w') :
    wpList Try.prog ops Q (o :: rest) a wr := by
  obtain ⟨i, hi, hz, hsize, hby⟩ := info_parts (show (Try.prog.info? 5).map (fun i => (i.zero, i.size, i.bytes)) = some (some (Value.int .u8 0), 1, 1) by kernel_rfl)
  have ht := Try.underlying31
  have htn := Try.underlying3
  have ll : (vs ++ z64).length = vs.length + 64 := by rw [List.length_append, z64_len]
  have gd : ∀ (o : Obj), wr.grownBy (wr.drew.alloc o) v.ownBlock := fun o => by
    have := below_alloc wr o
    exact ⟨rfl, rfl, rfl, this.size, fun k hk _ => this.block k hk⟩
  have kp : ∀ (o : Obj), RowV 5 base (wr.drew.alloc o) v vs := fun o => RowV.later (w := wr.drew) hown (below_alloc wr.drew o)
  rcases hown.2 with ⟨rfl, h0⟩ | ⟨g, cap, cur, rfl, hb, hg, hn, hm, hcs, htk⟩
  · have x0 : vs = [] := List.eq_nil_of_length_eq_zero h0
    subst x0
    have hr := Lib.run_append_nil_zeros (P := Try.prog) wr 31 3 o.type 5 i (Value.int .u8 0) .i64 .i64 ht htn hi hz 64 (by decide) (by omega) (by decide) (by rw [hby]; decide)
    refine Lib.wpList_append_run wr hgd s x 31 3 ho _ _ hs hx _ _ hr (h _ _ _ _ (gd _) (kp _) ?_ (fun g hg => .inr (by simp [Value.ownBlock] at hg; omega)))
    refine ⟨by simp, .inr ⟨wr.heap.size, _, _, by rw [List.nil_append, z64_len], hsz, heap_alloc_new wr.drew _, by rw [List.nil_append, z64_len]; exact grownCap_ge _ _ _ _, grownCap_le_maxLen _ _ _ _ (by decide), ?_, ?_⟩⟩
    · have := grownCap_ge wr 64 0 5
      simp only [Array.size_append, size_zeroCells]
      show 64 * 1 + (grownCap wr 64 0 5 - 64) * 1 = _
      omega
    · simp only [Array.toList_append, z64_eq, List.nil_append, z64_len]
      exact List.take_left' (by rw [z64_len])
  · by_cases hroom : vs.length + 64 ≤ cap
    · have hst := run_storeCells_cells (P := Try.prog) g (0 + vs.length * i.size) (Builtin.zeroCells (Value.int .u8 0).cells 64).toList 0 wr (fun j hj => by
          rw [zeros_lenI] at hj
          have hj' : 0 + vs.length * i.size + 0 + j < cur.size := by rw [hcs, hsize]; omega
          rw [cell_of_row wr g _ cur _ (0, 0) hg, Array.getElem?_eq_getElem hj']; rfl) (fun j hj => by simp [World.frozen?, hg]) zeros_oneI
      have hr : (Builtin.append_ #[31, 3] o.type #[.slice (some ⟨g, 0, none⟩) vs.length cap, .int .i64 64]).run Try.prog wr = .ok (.slice (some ⟨g, 0, none⟩) (vs.length + 64) cap) (wr.setCells g (0 + vs.length * i.size) (Builtin.zeroCells (Value.int .u8 0).cells 64).toList) := by
        have hw : IntKind.i64.wrap (64 : Int) = 64 := by decide
        simp only [Nat.add_zero] at hst
        simp [Builtin.append_, run_underlying ht, run_underlying htn, sizeOf, typeInfo, zeroValue, hi, hz, asInt, asIntOf, hw, hroom, hby, hsize, Addr.add_lit]
        rw [hsize] at hst
        simp at hst
        rw [hst]
        simp
      rw [z64_eq, hsize] at hr
      have cl : cur.toList.length = cap * 1 := by simpa using hcs
      have big : wr.ownsRow base 5 1 (.slice (some ⟨g, 0, none⟩) (vs.length + 64) cap) (vs.length + 64) (cur.toList.take (vs.length + 64)) :=
        ⟨by rw [List.length_take]; omega, .inr ⟨g, cap, cur, rfl, hb, hg, hroom, hm, hcs, by rw [Nat.mul_one]⟩⟩
      have b2 := setCells_row z64 (0 + vs.length * 1) wr _ big (by rw [z64_len, List.length_take]; omega)
      have sm : wr.ownsRow base 5 1 (.slice (some ⟨g, 0, none⟩) (vs.length + 64) cap) (vs.length + 64) (cur.toList.take (vs.length + 64)) := big
      have e1 : (cur.toList.take (vs.length + 64)).take (0 + vs.length * 1) ++ z64 ++ (cur.toList.take (vs.length + 64)).drop (0 + vs.length * 1 + z64.length) = vs ++ z64 := by
        rw [List.take_take, Nat.min_eq_left (by omega), List.drop_of_length_le (by rw [List.length_take, z64_len]; omega), List.append_nil, Nat.zero_add, htk]
      rw [e1] at b2
      refine Lib.wpList_append_run wr hgd s x 31 3 ho _ _ hs hx _ _ hr (h _ _ _ _ (setCells_grownB g _ _ _) ?_ (by show World.ownsRow _ _ _ _ _ _ _; rw [ll]; exact b2) (fun q hq => .inl hq))
      rcases b2.2 with ⟨hx, _⟩ | ⟨g', cap', cur', e', hb', hg', hn', hm', hcs', htk'⟩
      · simp at hx
      · simp only [Value.slice.injEq, Option.some.injEq, Addr.mk.injEq, and_true, true_and] at e'
        obtain ⟨rfl, rfl⟩ := e'
        refine ⟨by simp, .inr ⟨g, cap, cur', rfl, hb, hg', hn, hm, hcs', ?_⟩⟩
        have := congrArg (List.take (vs.length * 1)) htk'
        rw [List.take_take, Nat.min_eq_left (by omega)] at this
        rw [this]; exact List.take_left' (by omega)
    · have hold : (Builtin.firstCells i.size vs.length (.slice (some ⟨g, 0, none⟩) vs.length cap)).run Try.prog wr.drew = .ok vs.toArray wr.drew :=
        run_firstCells_some (P := Try.prog) (w := wr.drew) i.size vs.length ⟨g, 0, none⟩ vs.length cap vs (by rw [hsize]; simp) (fun j u hj => World.ownsRow.cells hown rfl j u hj)
      have hr := Lib.run_append_grow_zeros (P := Try.prog) wr 31 3 o.type 5 i (Value.int .u8 0) .i64 .i64 ht htn hi hz (some ⟨g, 0, none⟩) vs.length cap vs hold 64 (by decide) (by omega) (by omega) (by omega) (by rw [hby]; decide) (by rw [hby]; exact growslice_fits (by omega) (by omega))
      refine Lib.wpList_append_run wr hgd s x 31 3 ho _ _ hs hx _ _ hr (h _ _ _ _ (gd _) (kp _) ?_ (fun q hq => .inr (by simp [Value.ownBlock] at hq; omega)))
      refine ⟨by simp, .inr ⟨wr.heap.size, _, _, by rw [ll], hsz, heap_alloc_new wr.drew _, by rw [ll]; exact grownCap_ge _ _ _ _, grownCap_le_maxLen _ _ _ _ (by unfold maxLen; omega), ?_, ?_⟩⟩
      · have := grownCap_ge wr (vs.length + 64) cap 5
        simp only [Array.size_append, size_zeroCells, List.size_toArray]
        show vs.length + 64 * 1 + (grownCap wr (vs.length + 64) cap 5 - (vs.length + 64)) * 1 = _
        omega
      · simp only [Array.toList_append, z64_eq]
        exact List.take_left' (by rw [Nat.mul_one])
end Go.Proofs.Ytcnhcdlbippjoaa
