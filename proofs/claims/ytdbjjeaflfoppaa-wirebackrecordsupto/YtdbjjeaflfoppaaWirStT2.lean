/-
  Ours: the law's twinLoan and twinState (gen_wst6.py).
-/
import Derived.Test.YtdbjjeaflfoppaaWirStT
namespace Go.Proofs.Ytdbjjeaflfoppaa
open Go.RowKit WsM
/-- A loan's 46 zeros. -/
abbrev zLn : List Value := [.int .i64 0, .int .i64 0, .int .i64 0, .int .i64 0, .int .i64 0, .int .i64 0, .int .i64 0, .slice none 0 0, .int .i64 0, .int .i64 0, .int .i64 0, .int .i64 0, .int .i64 0, .int .i64 0, .int .i64 0, .int .i64 0, .int .i64 0, .int .i64 0, .int .i64 0, .int .i64 0, .int .i64 0, .bool false, .int .i64 0, .int .i64 0, .int .i64 0, .int .i64 0, .int .i64 0, .int .i64 0, .int .i64 0, .int .i64 0, .int .i64 0, .int .i64 0, .int .i64 0, .int .i64 0, .int .i64 0, .int .i64 0, .int .i64 0, .int .i64 0, .int .i64 0, .int .i64 0, .int .i64 0, .int .i64 0, .int .i64 0, .bool false, .int .i64 0, .int .i64 0]

theorem infoI4 : (Try.prog.info? 108).map (fun i => (i.zero, i.size, i.bytes)) = some (some (.agg #[.int .i64 0, .int .i64 0, .int .i64 0, .bool false]), 4, 32) := by kernel_rfl
theorem infoN6 : (Try.prog.info? 28).map (fun i => (i.zero, i.size, i.bytes)) = some (some (.agg #[.int .i64 0, .int .i64 0, .int .i64 0, .int .i64 0, .int .i64 0, .bool false]), 6, 48) := by kernel_rfl
theorem infoL46 : (Try.prog.info? 65).map (fun i => (i.zero, i.size, i.bytes)) = some (some (.agg #[.int .i64 0, .int .i64 0, .int .i64 0, .int .i64 0, .int .i64 0, .int .i64 0, .int .i64 0, .slice none 0 0, .int .i64 0, .int .i64 0, .int .i64 0, .int .i64 0, .int .i64 0, .int .i64 0, .int .i64 0, .int .i64 0, .int .i64 0, .int .i64 0, .int .i64 0, .int .i64 0, .int .i64 0, .bool false, .int .i64 0, .int .i64 0, .int .i64 0, .int .i64 0, .int .i64 0, .int .i64 0, .int .i64 0, .int .i64 0, .int .i64 0, .int .i64 0, .int .i64 0, .int .i64 0, .int .i64 0, .int .i64 0, .int .i64 0, .int .i64 0, .int .i64 0, .int .i64 0, .int .i64 0, .int .i64 0, .int .i64 0, .bool false, .int .i64 0, .int .i64 0]), 46, 384) := by kernel_rfl
theorem lnL_set (l : Ln) (pv pv' : Value) : (lnL l pv).set 7 pv' = lnL l pv' := rfl
set_option maxRecDepth 40000 in
set_option maxHeartbeats 2000000 in
/-- The twin of a loan: the same, its plan in new memory. -/
theorem twinLoan_at (l : Ln) (pv : Value) (w : World) (h : RdS 4 w pv (l.pl.map insL)) (hn : l.pl.length ≤ 1000000000000) :
    Calls Try.prog 26 #[.agg (lnL l pv).toArray] w fun e w' => ∃ pv', e = .returned (.agg (lnL l pv').toArray) ∧ RdS 4 w' pv' (l.pl.map insL) ∧ Below w.heap.size w w' ∧ ∀ g, pv'.ownBlock = some g → w.heap.size ≤ g ∧ g < w'.heap.size := by
  obtain ⟨i0, hi, hz0, hz1, hz2⟩ := info_parts infoI4
  obtain ⟨pa, pc, rfl, -, -⟩ := h.len
  obtain ⟨pn, hpn⟩ : ∃ n, (l.pl.map insL).length = n := ⟨_, rfl⟩
  rw [hpn] at h ⊢
  have BX : Blk (w.heap.size) 65 (lnL l (.slice pa pn pc)) ((w.alloc (.cells (lnL l (.slice pa pn pc)).toArray 65)).alloc (.cells zLn.toArray 65)) := (Blk.new 65 (lnL l (.slice pa pn pc)) w).old _
  have BY : Blk (w.heap.size + 1) 65 zLn ((w.alloc (.cells (lnL l (.slice pa pn pc)).toArray 65)).alloc (.cells zLn.toArray 65)) := Blk.new2 65 zLn w _
  have BB : Below w.heap.size w ((w.alloc (.cells (lnL l (.slice pa pn pc)).toArray 65)).alloc (.cells zLn.toArray 65)) := below_trans (below_alloc _ _) (below_alloc _ _)
  have HR : Hid (RdS 4 ((w.alloc (.cells (lnL l (.slice pa pn pc)).toArray 65)).alloc (.cells zLn.toArray 65)) (.slice pa pn pc) (l.pl.map insL)) := h.later BB
  have hk : ∀ c ∈ l.pl.map insL, c.length = 4 ∧ ∀ u ∈ c, u.oneCell' = true := fun c hc => by obtain ⟨i, _, rfl⟩ := List.mem_map.1 hc; exact insL_one i
  have l1 : (l.pl.map insL).length ≤ maxLen := by rw [List.length_map]; unfold maxLen; omega
  have l2 : (l.pl.map insL).length * 32 ≤ 140737488355328 := by rw [List.length_map]; omega
  have HK : Hid (∀ c ∈ l.pl.map insL, c.length = 4 ∧ ∀ u ∈ c, u.oneCell' = true) := hk
  have LM : Hid ((l.pl.map insL).length ≤ maxLen ∧ (l.pl.map insL).length * 32 ≤ 140737488355328) := ⟨l1, l2⟩
  clear hk l1 l2 h hpn hn
  generalize l.pl.map insL = cs at *
  go_enter Try.func26, Try.ntmps26
  go_upto_region 1 with fail
  generalize ((w.alloc (.cells (lnL l (.slice pa pn pc)).toArray 65)).alloc (.cells zLn.toArray 65)) = W0 at *
  obtain ⟨X, hX⟩ : ∃ X, w.heap.size = X := ⟨_, rfl⟩
  have HX : Hid (w.heap.size = X) := hX
  rw [hX] at BX BY ⊢
  have BX' : Hid (Blk X 65 (lnL l (.slice pa pn pc)) W0) := BX
  have BY' : Hid (Blk (X + 1) 65 zLn W0) := BY
  have B0' : Hid (Below w.heap.size w W0) := BB
  have c7 : W0.cell? ⟨X, 7, none⟩ = some (.slice pa pn pc) := BX.cell 7 _ rfl
  clear BX BY BB hX
  go_upto_region 3 with (at_builtin; refine wpList_newS rfl (.tmp 4) (.tmp 6) 56 rfl 108 i0 _ 4 32 Try.underlying56 hi hz0 hz1 hz2 rfl (by decide) _ cs rfl rfl HR.out HK.out LM.out.1 LM.out.2 ?_; intro v3 w3 r3 b3 o3; obtain ⟨qa, qc, ev, -, -⟩ := r3.len; generalize cs.length = qn at ev; subst ev; have BX3 : Hid (Blk X 65 (lnL l (.slice pa pn pc)) w3) := BX'.out.below b3; have BY3 : Hid (Blk (X + 1) 65 zLn w3) := BY'.out.below b3; have W3 : Hid (Below w.heap.size w w3) := below_trans B0'.out b3; have R3 : Hid (RdS 4 w3 (.slice qa qn qc) cs) := r3; have O3 : Hid (∀ g, (Value.slice qa qn qc).ownBlock = some g → W0.heap.size ≤ g ∧ g < w3.heap.size) := o3; have c73 : w3.cell? ⟨X, 7, none⟩ = some (.slice pa pn pc) := BX3.out.cell 7 _ rfl; have z73 : w3.frozen? ⟨X, 7, none⟩ = false := BX3.out.fz 7; have lt3 := BX3.out.lt; clear r3 b3 o3 c7)
  have BX4 : Hid (Blk X 65 (lnL l (.slice qa qn qc)) (w3.setCell ⟨X, 7, none⟩ (.slice qa qn qc))) := by have h := Blk.set (i := 7) BX3.out (.slice qa qn qc); rwa [lnL_set] at h
  have g4 := setCell_grown w3 X 7 (.slice qa qn qc)
  have BY4 : Hid (Blk (X + 1) 65 zLn (w3.setCell ⟨X, 7, none⟩ (.slice qa qn qc))) := BY3.out.grown g4 (by omega)
  have W4 : Hid (Below w.heap.size w (w3.setCell ⟨X, 7, none⟩ (.slice qa qn qc))) := below_row W3.out g4 (by rw [HX.out]; exact Nat.le_refl _)
  have lx : X + 1 < W0.heap.size := BY'.out.lt
  have SZ4 : Hid (w3.heap.size = (w3.setCell ⟨X, 7, none⟩ (.slice qa qn qc)).heap.size) := by show _ = _; simp
  have R4 : Hid (RdS 4 (w3.setCell ⟨X, 7, none⟩ (.slice qa qn qc)) (.slice qa qn qc) cs) := R3.out.grown g4 (fun g hg e => by have := O3.out g hg; injection e with e; omega)
  clear g4 BX3 BY3 W3 R3 c73 z73 lt3 BX' BY'
  rw [SZ4.out] at O3
  clear SZ4
  generalize w3.setCell ⟨X, 7, none⟩ (.slice qa qn qc) = w4 at *
  have O4 := lnL_one (l := l) (pv := .slice qa qn qc) rfl
  have HO4 : Hid ((lnL l (.slice qa qn qc)).length = 46 ∧ ∀ u ∈ lnL l (.slice qa qn qc), u.oneCell' = true) := O4
  clear O4
  go_wp2_with (first
    | ((with_reducible refine at_loadT 65 ?_); refine step_load rfl 65 _ rfl X 0 rfl (lnL l (.slice qa qn qc)) _ BX4.out.all Try.underlying65 rfl (szLn HO4.out.1) ?_)
    | ((with_reducible refine at_store ?_); refine step_store rfl 65 _ _ rfl (X + 1) 0 65 zLn (lnL l (.slice qa qn qc)) rfl rfl BY4.out (by rw [HO4.out.1]; decide) (szLn HO4.out.1) HO4.out.2 ?_; intro w5 nb5 g5; rw [store_all (by rw [HO4.out.1]; rfl)] at nb5))
  have R5 : RdS 4 w5 (.slice qa qn qc) cs := R4.out.grown g5 (fun g hg e => by have := O3.out g hg; injection e with e; omega)
  have W5 : Below w.heap.size w w5 := below_row W4.out g5 (by rw [HX.out]; omega)
  refine ret_blk rfl rfl (X + 1) 65 _ _ rfl nb5 Try.underlying65 rfl (szLn HO4.out.1) ⟨_, rfl, R5, W5, fun g hg => ?_⟩
  have h1 := O3.out g hg
  have h2 := HX.out
  have h3 := g5.size
  omega

theorem sz3 (td : Int) (x y : Value) : (Try.prog.info? 32).map (·.size) = some ([.int .i64 td, x, y] : List Value).length := by show _ = some 3; kernel_rfl
/-- Loans in a row of one's own that grows; the plans lie apart from the row. -/
structure TwI (wb : Nat) (wr : World) (v : Value) (ls : List Ln) (pvs : List Value) : Prop where
  len : pvs.length = ls.length
  row : wr.ownsRow 0 65 46 v (List.zipWith lnL ls pvs).length (List.zipWith lnL ls pvs).flatten
  new : ∀ g, v.ownBlock = some g → wb ≤ g
  pl : ∀ i, i < ls.length → RdS 4 wr (pvs.getD i .nilFunc) ((ls.getD i ln0).pl.map insL) ∧ (pvs.getD i .nilFunc).oneCell' = true
  ap : ∀ i, i < ls.length → ∀ g, (pvs.getD i .nilFunc).ownBlock = some g → v.ownBlock ≠ some g
  lt : ∀ g, v.ownBlock = some g → g < wr.heap.size
  pb : ∀ i, i < ls.length → ∀ g, (pvs.getD i .nilFunc).ownBlock = some g → g < wr.heap.size
  pn : ∀ i, i < ls.length → ∀ g, (pvs.getD i .nilFunc).ownBlock = some g → wb ≤ g
theorem zip_K (ls : List Ln) (pvs : List Value) : ∀ c ∈ List.zipWith lnL ls pvs, c.length = 46 := fun c hc => by
  obtain ⟨i, hi, rfl⟩ := List.getElem_of_mem hc
  rw [List.getElem_zipWith]; rfl
theorem zip_len {ls : List Ln} {pvs : List Value} (h : pvs.length = ls.length) : (List.zipWith lnL ls pvs).length = ls.length := by simp; omega
theorem TwI.rd {wb : Nat} {wr : World} {v : Value} {ls : List Ln} {pvs : List Value} (h : TwI wb wr v ls pvs) : RdLs wr v ls := ⟨pvs, h.len, owns_rd (zip_K ls pvs) h.row, fun i hi => (h.pl i hi).1⟩
theorem TwI.nil (wb : Nat) (wr : World) : TwI wb wr (.slice none 0 0) [] [] := ⟨rfl, World.ownsRow_nil _ _ _ _, (fun g hg => by cases hg), (fun i hi => by cases hi), (fun i hi => by cases hi), (fun g hg => by cases hg), (fun i hi => by cases hi), (fun i hi => by cases hi)⟩
theorem TwI.below {wb : Nat} {wr w' : World} {v : Value} {ls : List Ln} {pvs : List Value} (h : TwI wb wr v ls pvs) (hb : Below wr.heap.size wr w') : TwI wb w' v ls pvs :=
  ⟨h.len, by
    refine World.ownsRow.kept h.row (row := none) ⟨hb.os, hb.tape, hb.output, hb.size, fun k hk _ => hb.block k hk⟩ ?_
    cases hv : v.ownBlock <;> simp, h.new, fun i hi => ⟨(h.pl i hi).1.later hb, (h.pl i hi).2⟩, h.ap, fun g hg => Nat.lt_of_lt_of_le (h.lt g hg) hb.size, fun i hi g hg => Nat.lt_of_lt_of_le (h.pb i hi g hg) hb.size, h.pn⟩
theorem TwI.push {wb : Nat} {wr w' : World} {v v' pv : Value} {ls : List Ln} {pvs : List Value} {l : Ln} (h : TwI wb wr v ls pvs) (hwb : wb ≤ wr.heap.size) (hp : RdS 4 wr pv (l.pl.map insL)) (hp1 : pv.oneCell' = true) (hpa : ∀ g, pv.ownBlock = some g → v.ownBlock ≠ some g) (hpl : ∀ g, pv.ownBlock = some g → g < wr.heap.size) (hpn : ∀ g, pv.ownBlock = some g → wb ≤ g)
    (row : w'.ownsRow 0 65 46 v' (List.zipWith lnL ls pvs ++ [lnL l pv]).length (List.zipWith lnL ls pvs ++ [lnL l pv]).flatten) (gr : wr.grownBy w' v.ownBlock) (ho : ∀ g, v'.ownBlock = some g → v.ownBlock = some g ∨ wr.heap.size ≤ g) : TwI wb w' v' (ls ++ [l]) (pvs ++ [pv]) := by
  have ez : List.zipWith lnL (ls ++ [l]) (pvs ++ [pv]) = List.zipWith lnL ls pvs ++ [lnL l pv] := by
    rw [List.zipWith_append h.len.symm]; rfl
  have gl : ∀ i, i < ls.length → (pvs ++ [pv]).getD i .nilFunc = pvs.getD i .nilFunc ∧ (ls ++ [l]).getD i ln0 = ls.getD i ln0 := fun i hi => by
    have := h.len
    constructor
    · rw [getD_at (by simp; omega), getD_at (by omega), List.getElem_append_left (by omega)]
    · rw [getD_at (by simp; omega), getD_at (by omega), List.getElem_append_left (by omega)]
  have gr' : (pvs ++ [pv]).getD ls.length .nilFunc = pv ∧ (ls ++ [l]).getD ls.length ln0 = l := by
    have := h.len
    constructor
    · rw [getD_at (by simp; omega), List.getElem_append_right (by omega)]; simp [this]
    · rw [getD_at (by simp), List.getElem_append_right (by omega)]; simp
  refine ⟨by simp [h.len], by rw [ez]; exact row, fun g hg => ?_, fun i hi => ?_, fun i hi g hg e => ?_, fun g hg => ?_, fun i hi g hg => ?_, fun i hi g hg => ?_⟩
  · rcases ho g hg with h1 | h1
    · exact h.new g h1
    · omega
  · by_cases c : i < ls.length
    · rw [(gl i c).1, (gl i c).2]
      exact ⟨(h.pl i c).1.grown gr (fun g hg e => h.ap i c g hg e), (h.pl i c).2⟩
    · obtain rfl : i = ls.length := by simp at hi; omega
      rw [gr'.1, gr'.2]
      exact ⟨hp.grown gr (fun g hg e => hpa g hg e), hp1⟩
  · by_cases c : i < ls.length
    · rw [(gl i c).1] at hg
      rcases ho g e with h1 | h1
      · exact h.ap i c g hg h1
      · have := h.pb i c g hg; omega
    · obtain rfl : i = ls.length := by simp at hi; omega
      rw [gr'.1] at hg
      rcases ho g e with h1 | h1
      · exact hpa g hg h1
      · have := hpl g hg; omega
  · exact (World.ownsRow.lt row g hg).2
  · have sz := gr.size
    by_cases c : i < ls.length
    · rw [(gl i c).1] at hg
      have := h.pb i c g hg; omega
    · obtain rfl : i = ls.length := by simp at hi; omega
      rw [gr'.1] at hg
      have := hpl g hg; omega
  · by_cases c : i < ls.length
    · rw [(gl i c).1] at hg
      exact h.pn i c g hg
    · obtain rfl : i = ls.length := by simp at hi; omega
      rw [gr'.1] at hg
      exact hpn g hg
theorem TwI.row_grown {wb R : Nat} {wr w' : World} {v : Value} {ls : List Ln} {pvs : List Value} (h : TwI wb wr v ls pvs) (gr : wr.grownBy w' (some R)) (hR : R < wb) : TwI wb w' v ls pvs :=
  ⟨h.len, World.ownsRow.kept h.row gr (by
    cases hv : v.ownBlock with
    | none => exact .inl rfl
    | some g => exact .inr (fun e => by have := h.new g hv; injection e with e; omega)), h.new, fun i hi => ⟨(h.pl i hi).1.grown gr (fun g hg e => by have := h.pn i hi g hg; injection e with e; omega), (h.pl i hi).2⟩, h.ap, fun g hg => Nat.lt_of_lt_of_le (h.lt g hg) gr.size, fun i hi g hg => Nat.lt_of_lt_of_le (h.pb i hi g hg) gr.size, h.pn⟩
end Go.Proofs.Ytdbjjeaflfoppaa
