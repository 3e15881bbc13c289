/-
  Ours: rows of structs that grow.
-/
import Derived.Test.YtdbjjeaflfoppaaWirStE5
import Derived.Great.BuildSlice
namespace Go.Proofs.Ytdbjjeaflfoppaa
open Go.RowKit WsM

theorem flat_K {K : Nat} : ∀ {cs : List (List Value)}, (∀ c ∈ cs, c.length = K) → cs.flatten.length = cs.length * K
  | [], _ => by simp
  | c :: r, h => by
    have h1 := h c (by simp)
    have h2 := flat_K (cs := r) (fun x hx => h x (by simp [hx]))
    simp only [List.flatten_cons, List.length_append, List.length_cons, h1, h2, Nat.succ_mul]
    omega
theorem flat_get {K : Nat} : ∀ {cs : List (List Value)}, (∀ c ∈ cs, c.length = K) → ∀ (i j : Nat), i < cs.length → j < K → cs.flatten[i * K + j]? = (cs.getD i [])[j]?
  | c :: r, h, 0, j, _, hj => by
    have h1 := h c (by simp)
    rw [Nat.zero_mul, Nat.zero_add, List.flatten_cons, List.getElem?_append_left (by omega)]
    rfl
  | c :: r, h, i + 1, j, hi, hj => by
    have h1 := h c (by simp)
    have ih := flat_get (cs := r) (fun x hx => h x (by simp [hx])) i j (by simpa using hi) hj
    rw [List.flatten_cons, List.getElem?_append_right (by rw [h1, Nat.succ_mul]; omega)]
    rw [show (i + 1) * K + j - c.length = i * K + j from by rw [h1, Nat.succ_mul]; omega, ih]
    rfl
theorem addr_add (g o j : Nat) : (⟨g, o, none⟩ : Addr).add j = ⟨g, o + j, none⟩ := by unfold Addr.add; split <;> simp_all
/-- What a row owns is what it reads as. -/
theorem owns_rd {K : Nat} {e : TypeId} {base : Nat} {w : World} {v : Value} {cs : List (List Value)} (hk : ∀ c ∈ cs, c.length = K) (h : w.ownsRow base e K v cs.length cs.flatten) : RdS K w v cs := by
  have hc := fun (g : Nat) (hg : v.ownBlock = some g) => World.ownsRow.cells h hg
  have hlt := fun (g : Nat) (hg : v.ownBlock = some g) => (World.ownsRow.lt h g hg).2
  rcases h.2 with ⟨hv, h0⟩ | ⟨g, cap, cur, rfl, hb, hg, hn, hm, hcs, htk⟩
  · exact ⟨none, 0, by rw [hv, h0], by omega, fun _ => rfl, fun i hi => by omega⟩
  · refine ⟨some ⟨g, 0, none⟩, cap, rfl, hn, (fun h => by cases h), fun i hi => ⟨g, 0, rfl, hlt g rfl, fun j u hu => ?_⟩⟩
    have hj : j < K := by
      have h1 := (List.getElem?_eq_some_iff.1 hu).1
      rwa [hk _ (getD_mem hi)] at h1
    have := hc g rfl (i * K + j) u (by rw [flat_get hk i j hi hj]; exact hu)
    rw [addr_add] at this
    rw [show 0 + i * K + j = 0 + (i * K + j) from by omega]
    exact this
theorem RdS.grown {K : Nat} {w w' : World} {v : Value} {cs : List (List Value)} {row : Option Nat} (h : RdS K w v cs) (hg : w.grownBy w' row) (hn : ∀ g, v.ownBlock = some g → row ≠ some g) : RdS K w' v cs := by
  obtain ⟨ao, cap, rfl, h1, h2, h3⟩ := h
  refine ⟨ao, cap, rfl, h1, h2, fun i hi => ?_⟩
  obtain ⟨g, o, rfl, lt, r⟩ := h3 i hi
  refine ⟨g, o, rfl, Nat.lt_of_lt_of_le lt hg.size, fun j u hj => ?_⟩
  rw [World.cell?_of_block (hg.block g lt (fun e => hn g rfl e.symm))]
  exact r j u hj
theorem RdS.blk {K : Nat} {w : World} {v : Value} {cs : List (List Value)} (h : RdS K w v cs) (h0 : 0 < cs.length) {g : Nat} (hg : v.ownBlock = some g) : g < w.heap.size := by
  obtain ⟨ao, cap, rfl, h1, h2, h3⟩ := h
  obtain ⟨b, o, e, lt, _⟩ := h3 0 h0
  subst e
  cases hg; exact lt
/-- A row that reads as nothing reads so anywhere. -/
theorem RdS.void {K : Nat} {w w' : World} {v : Value} {cs : List (List Value)} (h : RdS K w v cs) (h0 : cs.length = 0) : RdS K w' v cs := by
  obtain ⟨ao, cap, rfl, h1, h2, h3⟩ := h
  exact ⟨ao, cap, rfl, h1, h2, fun i hi => by omega⟩
theorem RdS.grownN {K : Nat} {w w' : World} {v : Value} {cs : List (List Value)} {g : Nat} (h : RdS K w v cs) (hg : w.grownBy w' (some g)) (hn : 0 < cs.length → v.ownBlock ≠ some g) : RdS K w' v cs := by
  by_cases h0 : 0 < cs.length
  · exact h.grown hg (fun g' h1 h2 => hn h0 (by rw [h1]; exact h2.symm))
  · exact h.void (by omega)
theorem fill_one {K : Nat} (hK : 0 < K) {C : List Value} (hC : C.length = K) {cells : Array Value} (hs : cells.size = K) : Instr.fill (fun i => some (i * K, K)) cells [(0, .agg C.toArray)] = some C.toArray := by
  obtain ⟨r, h1, h2, h3⟩ := Great.fill_dense hK [.agg C.toArray] 0 cells (fun v hv => by simp at hv; subst hv; simpa [Value.cells] using hC) (by simp [hs])
  have e : r = C.toArray := by
    apply Array.ext_getElem?
    intro k
    rw [h3 k]
    by_cases hk : k < K
    · rw [if_pos (by simp; exact hk)]
      have : k / K = 0 := Nat.div_eq_of_lt hk
      simp [this, Nat.mod_eq_of_lt hk, Value.cells]
    · rw [if_neg (by simp; omega)]
      rw [Array.getElem?_eq_none (by omega)]
      simp; omega
  rw [e] at h1
  exact h1
section
variable {P : Program}
/-- The next operation is a slice literal. -/
theorem at_slice {ops : Array Oper} {rest : List Oper} {a : Act} {w : World} {Q : Exit → Act → World → Prop} {dst : Option Tmp} {ty t : TypeId} {n : Nat} {ps : Array (Nat × Operand)} {pos : String} {af : Array Edge}
    (h : wpList P ops Q ({ dst := dst, op := .buildSlice ty n ps, type := t, pos := pos, after := af, guard := none } :: rest) a w) : wpList P ops Q ({ dst := dst, op := .buildSlice ty n ps, type := t, pos := pos, after := af, guard := none } :: rest) a w := h
/-- A slice of one struct. -/
theorem step_slice1 {ops : Array Oper} {rest : List Oper} {o : Oper} {a : Act} {w : World} {Q : Exit → Act → World → Prop} (hg : o.guard = none) (t e : TypeId) (x : Operand) (ho : o.op = .buildSlice t 1 #[(0, x)])
    (ie : TypeInfo) (z : Value) (K : Nat) (hK : 0 < K) (hu : P.underlying t = some (.slice e)) (hie : P.info? e = some ie) (hz : ie.zero = some z) (hsize : ie.size = K) (hsm : K ≤ 1000)
    (C : List Value) (hC : C.length = K) (hx : a.eval x = .agg C.toArray)
    (h : wpList P ops Q rest (a.put o.dst (.slice (some ⟨w.heap.size, 0, none⟩) 1 1)) (w.alloc (.cells C.toArray e))) : wpList P ops Q (o :: rest) a w := by
  refine wpList_buildSlice hg t e 1 _ ho C.toArray ie z hu hie hz (by rw [hsize]; omega) (by rw [hsize]; omega) ?_ h
  simp only [List.map_toArray, List.map_cons, List.map_nil, hx, hsize]
  exact fill_one hK hC (by simp)
/-- 'append(nil, x...)' of structs: the same in new memory. -/
theorem wpList_newS {wr : World} {ops : Array Oper} {rest : List Oper} {o : Oper} {a : Act} {Q : Exit → Act → World → Prop} (hgd : o.guard = none) (s x : Operand) (t : TypeId)
    (ho : o.op = .call { callee := .builtin .append, args := #[s, x], argTypes := #[t, t] })
    (e : TypeId) (i : TypeInfo) (z : Value) (K by' : Nat) (ht : P.underlying t = some (.slice e)) (hi : P.info? e = some i) (hz : i.zero = some z) (hsize : i.size = K) (hby : i.bytes = by') (hzc : z.cells.size = K) (hK : 0 < K)
    (v2 : Value) (fs : List (List Value)) (hs : a.eval s = .slice none 0 0) (hx : a.eval x = v2) (hr : RdS K wr v2 fs) (hk : ∀ c ∈ fs, c.length = K ∧ ∀ u ∈ c, u.oneCell' = true) (hl : fs.length ≤ maxLen) (hl2 : fs.length * by' ≤ 140737488355328)
    (h : ∀ v' w', RdS K w' v' fs → Below wr.heap.size wr w' → (∀ g, v'.ownBlock = some g → wr.heap.size ≤ g ∧ g < w'.heap.size) → wpList P ops Q rest (a.put o.dst v') w') :
    wpList P ops Q (o :: rest) a wr := by
  have hk1 : ∀ c ∈ fs, c.length = K := fun c hc => (hk c hc).1
  obtain ⟨ao, cap, rfl, h1, h2, h3⟩ := hr
  have fin : ∀ v' w', w'.ownsRow wr.heap.size e K v' (0 + fs.length) ([] ++ fs.flatten) → wr.grownBy w' (Value.slice none 0 0).ownBlock → wpList P ops Q rest (a.put o.dst v') w' := fun v' w' r g => by
    rw [Nat.zero_add, List.nil_append] at r
    exact h v' w' (owns_rd hk1 r) (below_none g) fun g hg => World.ownsRow.lt r g hg
  have nilR : wr.ownsRow wr.heap.size e K (.slice none 0 0) 0 [] := World.ownsRow_nil _ _ _ _
  by_cases hu : fs.length = 0
  · obtain rfl : fs = [] := List.eq_nil_of_length_eq_zero hu
    cases ao with
    | none =>
      obtain rfl := h2 rfl
      have hr : ∀ ty, (Builtin.append_ #[t, t] ty #[.slice none 0 0, .slice none 0 0]).run P wr = .ok (.slice none 0 0) wr := fun ty => run_append_owned_none (P := P) wr wr.heap.size t ty e i K ht hi _ 0 [] nilR
      refine wpList_plain hgd fun K' hK' => ?_
      unfold Oper.wp execOp
      simp only [ho, resolve, invoke, builtin, Sem.run_bind, Sem.run_pure, Result.andThen_ok, List.map_toArray, List.map_cons, List.map_nil, hs, hx, List.length_nil, hr]
      exact hK' _ _ (fin _ _ (by simpa using nilR) (grownBy_refl _ _))
    | some ad =>
      refine wpList_append_own _ hgd s x t ho wr.heap.size e i z K by' ht hi hz hsize hby hzc hK (.slice none 0 0) 0 [] hs nilR ad 0 cap [] hx (by simp) (by simp) (by simp) (by simp) (by simp) (Nat.le_refl _) ?_
      intro v' w' hown' hgrow _
      exact fin v' w' (by simpa using hown') hgrow
  · obtain ⟨g, off, rfl, lt, _⟩ := h3 0 (by omega)
    refine wpList_append_own _ hgd s x t ho wr.heap.size e i z K by' ht hi hz hsize hby hzc hK (.slice none 0 0) 0 [] hs nilR ⟨g, off, none⟩ fs.length cap fs.flatten hx (flat_K hk1) ?_ ?_ (by simpa using hl) (by simpa using hl2) (Nat.le_refl _) ?_
    · intro j u hj
      have hjl : j < fs.length * K := by have := (List.getElem?_eq_some_iff.1 hj).1; rwa [flat_K hk1] at this
      have hq : j / K < fs.length := (Nat.div_lt_iff_lt_mul hK).2 hjl
      have hm : j % K < K := Nat.mod_lt _ hK
      obtain ⟨g', o', e1, _, hc⟩ := h3 (j / K) hq
      cases e1
      have hd : j / K * K + j % K = j := Nat.div_add_mod' j K
      have ha := flat_get hk1 (j / K) (j % K) hq hm
      rw [hd, hj] at ha
      have := hc (j % K) u ha.symm
      rw [addr_add]
      rw [show off + j / K * K + j % K = off + j from by omega] at this
      exact this
    · intro u hu'
      obtain ⟨c, hc, hu2⟩ := List.mem_flatten.1 hu'
      exact (hk c hc).2 u hu2
    · intro v' w' hown' hgrow _
      exact fin v' w' hown' hgrow
/-- 'v = append(v, y)' of one struct on a row of one's own. -/
theorem wpList_pushS {wr : World} {ops : Array Oper} {rest : List Oper} {o : Oper} {a : Act} {Q : Exit → Act → World → Prop} (hgd : o.guard = none) (s x : Operand) (t : TypeId)
    (ho : o.op = .call { callee := .builtin .append, args := #[s, x], argTypes := #[t, t] })
    (e : TypeId) (i : TypeInfo) (z : Value) (K by' : Nat) (ht : P.underlying t = some (.slice e)) (hi : P.info? e = some i) (hz : i.zero = some z) (hsize : i.size = K) (hby : i.bytes = by') (hzc : z.cells.size = K) (hK : 0 < K)
    (v : Value) (es : List (List Value)) (C : List Value) (hs : a.eval s = v) (hown : wr.ownsRow 0 e K v es.length es.flatten)
    (hx : a.eval x = .slice (some ⟨wr.heap.size, 0, none⟩) 1 1) (hC : C.length = K) (h1c : ∀ u ∈ C, u.oneCell' = true)
    (hl : es.length + 1 ≤ maxLen) (hl2 : (es.length + 1) * by' ≤ 140737488355328)
    (h : ∀ v' w', w'.ownsRow 0 e K v' (es ++ [C]).length (es ++ [C]).flatten → wr.grownBy w' v.ownBlock → (∀ g, v'.ownBlock = some g → v.ownBlock = some g ∨ wr.heap.size ≤ g) → wpList P ops Q rest (a.put o.dst v') w') :
    wpList P ops Q (o :: rest) a (wr.alloc (.cells C.toArray e)) := by
  have BA := below_alloc wr (.cells C.toArray e)
  have BN : Blk wr.heap.size e C (wr.alloc (.cells C.toArray e)) := Blk.new _ _ _
  have sz : (wr.alloc (.cells C.toArray e)).heap.size = wr.heap.size + 1 := by simp
  have hown1 : (wr.alloc (.cells C.toArray e)).ownsRow 0 e K v es.length es.flatten := World.ownsRow.alloc hown _
  have hc : ∀ j u, C[j]? = some u → (wr.alloc (.cells C.toArray e)).cell? ((⟨wr.heap.size, 0, none⟩ : Addr).add j) = some u := fun j u hj => by
    rw [addr_add, Nat.zero_add]; exact BN.cell j u hj
  have up : ∀ (w' : World) (row : Option Nat), (wr.alloc (.cells C.toArray e)).grownBy w' row → wr.grownBy w' row := fun w' row g =>
    ⟨g.os, g.tape, g.output, Nat.le_trans (by simp) g.size, fun k hk hn => (g.block k (by simp; omega) hn).trans (BA.block k hk)⟩
  have fe : (es ++ [C]).flatten = es.flatten ++ C := by simp
  have fl : (es ++ [C]).length = es.length + 1 := by simp
  have fresh : ∀ v' w', w'.ownsRow (wr.alloc (.cells C.toArray e)).heap.size e K v' (es.length + 1) (es.flatten ++ C) → (wr.alloc (.cells C.toArray e)).grownBy w' none → wpList P ops Q rest (a.put o.dst v') w' := by
    intro v' w' r1 gr
    have r2 : w'.ownsRow 0 e K v' (es ++ [C]).length (es ++ [C]).flatten := by
      rw [fe, fl]
      refine ⟨r1.1, ?_⟩
      rcases r1.2 with hn | ⟨g, cap, cur, hv, hg, rest⟩
      · exact .inl hn
      · exact .inr ⟨g, cap, cur, hv, Nat.zero_le _, rest⟩
    exact h v' w' r2 (up _ _ (grownBy_none gr _)) fun g hg => .inr (by have := (World.ownsRow.lt r1 g hg).1; omega)
  have hlen : es.flatten.length = es.length * K := hown.1
  rcases hown1.2 with ⟨rfl, h0⟩ | ⟨g, cap, cur, rfl, hb, hg, hn, hm, hcs, htk⟩
  · have e0 : es = [] := List.eq_nil_of_length_eq_zero h0
    subst e0
    exact wpList_append_grows _ hgd s x t ho e i z K by' ht hi hz hsize hby hzc hK none 0 0 [] hs (fun _ => ⟨rfl, rfl⟩) (by simp) (fun b hb => by cases hb) ⟨wr.heap.size, 0, none⟩ 1 1 C hx (by omega) hc h1c (by omega) hl hl2 fresh
  · by_cases hr : es.length + 1 ≤ cap
    · exact wpList_append_fits _ hgd s x t ho 0 e i K ht hi hsize g es.length cap es.flatten hs hown1 ⟨wr.heap.size, 0, none⟩ 1 1 C hx (by omega) hc h1c hr fun w' r1 gr => h _ w' (by rw [fe, fl]; exact r1) (up _ _ gr) fun g' h1 => .inl h1
    · refine wpList_append_grows _ hgd s x t ho e i z K by' ht hi hz hsize hby hzc hK (some ⟨g, 0, none⟩) es.length cap es.flatten hs (fun h => by cases h) hlen (fun b hb => ?_) ⟨wr.heap.size, 0, none⟩ 1 1 C hx (by omega) hc h1c (by omega) hl hl2 fresh
      cases hb
      exact fun j u hj => World.ownsRow.cells hown1 rfl j u hj
end
end Go.Proofs.Ytdbjjeaflfoppaa
