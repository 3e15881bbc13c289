/-
  Ours: rows of structs as they read, and their lists told (gen_wst3.py).
-/
import Derived.Test.YtdbjjeaflfoppaaWirStE2
namespace Go.Proofs.Ytdbjjeaflfoppaa
open Go.RowKit WsM

/-- The slice value v reads as structs of K cells each. -/
def RdS (K : Nat) (w : World) (v : Value) (cs : List (List Value)) : Prop :=
  ∃ ao cap, v = .slice ao cs.length cap ∧ cs.length ≤ cap ∧ (ao = none → cap = 0) ∧ ∀ i, i < cs.length → ∃ g o, ao = some ⟨g, o, none⟩ ∧ g < w.heap.size ∧ w.rangeAt g (o + i * K) (cs.getD i [])
theorem RdS.later {K : Nat} {w w' : World} {v : Value} {cs : List (List Value)} (h : RdS K w v cs) (hb : Below w.heap.size w w') : RdS K w' v cs := by
  obtain ⟨ao, cap, e, h1, h2, h3⟩ := h
  refine ⟨ao, cap, e, h1, h2, fun i hi => ?_⟩
  obtain ⟨g, o, e1, lt, r⟩ := h3 i hi
  exact ⟨g, o, e1, Nat.lt_of_lt_of_le lt hb.size, fun j u hj => (hb.cell (p := ⟨g, _, none⟩) lt).trans (r j u hj)⟩
theorem RdS.len {K : Nat} {w : World} {v : Value} {cs : List (List Value)} (h : RdS K w v cs) : ∃ ao cap, v = .slice ao cs.length cap ∧ cs.length ≤ cap ∧ (ao = none → cap = 0) := by
  obtain ⟨ao, cap, e, h1, h2, _⟩ := h; exact ⟨ao, cap, e, h1, h2⟩
theorem at_loadT {P : Program} {ops : Array Oper} {rest : List Oper} {a : Act} {w : World} {Q : Exit → Act → World → Prop} {dst : Option Tmp} (ty : TypeId) {t : TypeId} {x : Operand} {pos : String} {af : Array Edge}
    (h : wpList P ops Q ({ dst := dst, op := .load ty x, type := t, pos := pos, after := af, guard := none } :: rest) a w) : wpList P ops Q ({ dst := dst, op := .load ty x, type := t, pos := pos, after := af, guard := none } :: rest) a w := h
theorem store_all {cs vs : List Value} (h : cs.length = vs.length) : cs.take 0 ++ vs ++ cs.drop (0 + vs.length) = vs := by
  rw [List.take_zero, List.nil_append, Nat.zero_add, ← h, List.drop_length, List.append_nil]
theorem szIns {C : List Value} (h : C.length = 4) : (Try.prog.info? 108).map (·.size) = some C.length := by rw [h]; kernel_rfl
set_option maxRecDepth 40000 in
set_option maxHeartbeats 2000000 in
theorem putListIns_at (cs : List (List Value)) (fs : List (List Nat)) (v : Value) (w : World) (h : RdS 4 w v cs) (hk : ∀ c ∈ cs, c.length = 4 ∧ ∀ u ∈ c, u.oneCell' = true) (hlen : fs.length = cs.length) (hn : cs.length ≤ 1000000000000) (hl : fs.flatten.length ≤ 1000000000000)
    (hf : ∀ i, i < cs.length → ∀ W, Below w.heap.size w W → Calls Try.prog 57 #[.agg (cs.getD i []).toArray] W (NewB W (fs.getD i []))) :
    Calls Try.prog 56 #[v, .func (.func 57) #[] #[]] w (NewB w (put cs.length ++ fs.flatten)) := by
  obtain ⟨i0, hi, hz0, hz1, hz2⟩ := info_parts infoB
  have U : Hid (Calls Try.prog 35 #[.int .u64 (cs.length : Int)] w (NewB w (put cs.length))) := putUint_at _ (by omega) w
  have CE : Hid (∀ w', Below w.heap.size w w' → RdS 4 w' v cs) := fun w' hb => h.later hb
  obtain ⟨ao, cap, rfl, hcap, hno, -⟩ := h
  obtain ⟨L, hL⟩ : ∃ L, cs.length = L := ⟨_, rfl⟩
  have HC : Hid (∀ w', Below w.heap.size w w' → ∀ i, i < L → ∃ g o, ao = some ⟨g, o, none⟩ ∧ w'.rangeAt g (o + i * 4) (cs.getD i [])) := fun w' hb i hi => by
    obtain ⟨ao', cap', e, _, _, H⟩ := CE.out w' hb
    injection e with e1 e2 e3
    subst e1
    obtain ⟨g, o, e, _, r⟩ := H i (by omega)
    exact ⟨g, o, e, r⟩
  have HK : Hid (∀ i, i < L → (cs.getD i []).length = 4 ∧ ∀ u ∈ cs.getD i [], u.oneCell' = true) := fun i hi => hk _ (by rw [List.getD_eq_getElem?_getD, List.getElem?_eq_getElem (by omega)]; exact List.getElem_mem _)
  have HF : Hid (∀ i, i < L → ∀ W, Below w.heap.size w W → Calls Try.prog 57 #[.agg (cs.getD i []).toArray] W (NewB W (fs.getD i []))) := fun i hi W hb => hf i (by omega) W hb
  have FT : Hid (∀ k, k < L → (fs.take (k + 1)).flatten = (fs.take k).flatten ++ fs.getD k []) := fun k hk => flat_take (by omega)
  have FL : Hid (∀ k, k < L → (fs.take k).flatten.length + (fs.getD k []).length ≤ 1000000000000) := fun k hk => by
    have h1 := lenS_take (rs := fs) (k := k) (by omega)
    have h2 := lenS_le fs (k + 1)
    unfold lenS at h1 h2
    omega
  have FA : Hid ((fs.take L).flatten = fs.flatten) := by show _ = _; rw [List.take_of_length_le (by omega)]
  have PL : Hid ((put L).length ≤ 10) := put_len10 _ (by omega)
  have hn' : L ≤ 1000000000000 := by omega
  rw [hL] at hcap U ⊢
  clear CE hk hf hL hl hlen hn
  go_enter Try.func56, Try.ntmps56
  go_wp2_with fail
  refine U.out.mono ?_
  rintro e w1 ⟨v1, rfl, r1, b1⟩
  have R1 : Hid (RowB 5 w.heap.size w1 v1 (put L)) := r1
  have B1 : Hid (Below w.heap.size w w1) := b1
  clear U r1 b1
  go_wp2_with fail
  go_loopw [5, 14] (fun vx vk wr => ∃ (k : Nat) (vv : Value), vv = vx ∧ vk = .int .i64 (k : Int) ∧ k ≤ L ∧ Hid (RowB 5 w.heap.size wr vv (put L ++ (fs.take k).flatten)) ∧ Hid (Below w.heap.size w wr)) (fun _ vk _ => L - (intOf vk).toNat)
  case atStart => exact ⟨0, _, rfl, rfl, by omega, by show RowB _ _ _ _ _; simpa using R1.out, B1.out⟩
  case round =>
    clear R1 B1
    obtain ⟨k, vv, rfl, rfl, hk, hown, hnx⟩ := hrel
    by_cases hlt : (k : Int) < (L : Int)
    · obtain ⟨g, o, rfl, rg⟩ := HC.out wr hnx.out k (by omega)
      have RG : Hid (wr.rangeAt g (o + k * 4) (cs.getD k [])) := rg
      have OB : Hid ((cs.getD k []).length = 4 ∧ ∀ u ∈ cs.getD k [], u.oneCell' = true) := HK.out k (by omega)
      have CF : Hid (∀ W, Below w.heap.size w W → Calls Try.prog 57 #[.agg (cs.getD k []).toArray] W (NewB W (fs.getD k []))) := HF.out k (by omega)
      have CT : Hid ((fs.take (k + 1)).flatten = (fs.take k).flatten ++ fs.getD k []) := FT.out k (by omega)
      have LT : Hid ((fs.take k).flatten.length + (fs.getD k []).length ≤ 1000000000000) := FL.out k (by omega)
      clear rg HC HK HF FT FL
      generalize cs.getD k [] = C at *
      generalize fs.getD k [] = f at *
      have NE : Hid (Blk wr.heap.size 108 [.int .i64 0, .int .i64 0, .int .i64 0, .bool false] (wr.alloc (.cells #[.int .i64 0, .int .i64 0, .int .i64 0, .bool false] 108))) := Blk.new _ _ _
      have WW : Hid (Below w.heap.size w (wr.alloc (.cells #[.int .i64 0, .int .i64 0, .int .i64 0, .bool false] 108))) := below_trans hnx.out (below_alloc _ _)
      have RR : Hid (RowB 5 w.heap.size (wr.alloc (.cells #[.int .i64 0, .int .i64 0, .int .i64 0, .bool false] 108)) vv (put L ++ (fs.take k).flatten)) := RowV.later hown.out (below_alloc _ _)
      have SZ : Hid (w.heap.size ≤ wr.heap.size) := hnx.out.size
      have RL : Hid (∀ g, vv.ownBlock = some g → g < wr.heap.size) := fun g hg => hown.out.block_lt hg
      clear hown hnx
      go_wp2_with (first
        | ((with_reducible refine at_loadT 108 ?_); refine step_load rfl 108 _ rfl g (o + k * 4) rfl C _ RG.out Try.underlying108 rfl (szIns OB.out.1) ?_)
        | ((with_reducible refine at_store ?_); refine step_store rfl 108 _ _ rfl wr.heap.size 0 108 [.int .i64 0, .int .i64 0, .int .i64 0, .bool false] C rfl rfl NE.out (by rw [OB.out.1]; decide) (szIns OB.out.1) OB.out.2 ?_; intro w4 nb4 g4; rw [store_all (by rw [OB.out.1]; rfl)] at nb4; have N4 : Hid (Blk wr.heap.size 108 C w4) := nb4; have R4 : Hid (RowB 5 w.heap.size w4 vv (put L ++ (fs.take k).flatten)) := RowV.kept RR.out g4 (fun g hg e => by have := RL.out g hg; injection e with e; omega); have W4 : Hid (Below w.heap.size w w4) := below_row WW.out g4 SZ.out; clear nb4 g4 NE RR WW)
        | ((with_reducible refine at_loadT 108 ?_); refine step_load rfl 108 _ rfl wr.heap.size 0 rfl C _ N4.out.all Try.underlying108 rfl (szIns OB.out.1) ?_))
      refine (CF.out _ W4.out).mono ?_
      rintro e w5 ⟨v5, rfl, r5, b5⟩
      have own5 := RowV.later R4.out b5
      have rd5 := RowV.rd r5
      have W5 := below_trans W4.out b5
      have sz5 := W5.size
      have one : ∀ u ∈ f.map bv, u.oneCell' = true := one_bv f
      have l1 : ((put L ++ (fs.take k).flatten).map bv).length + (f.map bv).length ≤ maxLen := by rw [List.length_map, List.length_map, List.length_append]; have := PL.out; have := LT.out; unfold maxLen; omega
      have l2 : (((put L ++ (fs.take k).flatten).map bv).length + (f.map bv).length) * 1 ≤ 140737488355328 := by rw [List.length_map, List.length_map, List.length_append]; have := PL.out; have := LT.out; omega
      clear r5 b5 N4 R4 W4 CF RG OB
      go_wp2_with (at_builtin; refine wpList_catV rfl (.tmp 18) (.tmp 21) 33 rfl 5 i0 (.int .u8 0) 1 underB hi hz0 hz1 hz2 rfl w.heap.size _ _ _ _ one rfl own5 sz5 rfl rd5 l1 l2 ?_; intro v' w3 hown' hgr)
      have hb : Below w.heap.size w w3 := below_grown W5 own5 (Nat.le_refl _) sz5 hgr
      go_roundw
      case rel =>
        refine ⟨k + 1, _, rfl, by go_num, by omega, ?_, hb⟩
        show RowB _ _ _ _ _
        rw [CT.out, ← List.append_assoc]
        simpa [RowB, List.map_append] using hown'
      case measure => simp [intOf]; omega
    · obtain rfl : k = L := by omega
      rw [FA.out] at hown
      clear HC HK HF FT FL
      go_wp2_with fail
      go_ret
      exact ⟨_, rfl, hown.out, hnx.out⟩
theorem szNt {C : List Value} (h : C.length = 6) : (Try.prog.info? 28).map (·.size) = some C.length := by rw [h]; kernel_rfl
set_option maxRecDepth 40000 in
set_option maxHeartbeats 2000000 in
theorem putListNt_at (cs : List (List Value)) (fs : List (List Nat)) (v : Value) (w : World) (h : RdS 6 w v cs) (hk : ∀ c ∈ cs, c.length = 6 ∧ ∀ u ∈ c, u.oneCell' = true) (hlen : fs.length = cs.length) (hn : cs.length ≤ 1000000000000) (hl : fs.flatten.length ≤ 1000000000000)
    (hf : ∀ i, i < cs.length → ∀ W, Below w.heap.size w W → Calls Try.prog 42 #[.agg (cs.getD i []).toArray] W (NewB W (fs.getD i []))) :
    Calls Try.prog 41 #[v, .func (.func 42) #[] #[]] w (NewB w (put cs.length ++ fs.flatten)) := by
  obtain ⟨i0, hi, hz0, hz1, hz2⟩ := info_parts infoB
  have U : Hid (Calls Try.prog 35 #[.int .u64 (cs.length : Int)] w (NewB w (put cs.length))) := putUint_at _ (by omega) w
  have CE : Hid (∀ w', Below w.heap.size w w' → RdS 6 w' v cs) := fun w' hb => h.later hb
  obtain ⟨ao, cap, rfl, hcap, hno, -⟩ := h
  obtain ⟨L, hL⟩ : ∃ L, cs.length = L := ⟨_, rfl⟩
  have HC : Hid (∀ w', Below w.heap.size w w' → ∀ i, i < L → ∃ g o, ao = some ⟨g, o, none⟩ ∧ w'.rangeAt g (o + i * 6) (cs.getD i [])) := fun w' hb i hi => by
    obtain ⟨ao', cap', e, _, _, H⟩ := CE.out w' hb
    injection e with e1 e2 e3
    subst e1
    obtain ⟨g, o, e, _, r⟩ := H i (by omega)
    exact ⟨g, o, e, r⟩
  have HK : Hid (∀ i, i < L → (cs.getD i []).length = 6 ∧ ∀ u ∈ cs.getD i [], u.oneCell' = true) := fun i hi => hk _ (by rw [List.getD_eq_getElem?_getD, List.getElem?_eq_getElem (by omega)]; exact List.getElem_mem _)
  have HF : Hid (∀ i, i < L → ∀ W, Below w.heap.size w W → Calls Try.prog 42 #[.agg (cs.getD i []).toArray] W (NewB W (fs.getD i []))) := fun i hi W hb => hf i (by omega) W hb
  have FT : Hid (∀ k, k < L → (fs.take (k + 1)).flatten = (fs.take k).flatten ++ fs.getD k []) := fun k hk => flat_take (by omega)
  have FL : Hid (∀ k, k < L → (fs.take k).flatten.length + (fs.getD k []).length ≤ 1000000000000) := fun k hk => by
    have h1 := lenS_take (rs := fs) (k := k) (by omega)
    have h2 := lenS_le fs (k + 1)
    unfold lenS at h1 h2
    omega
  have FA : Hid ((fs.take L).flatten = fs.flatten) := by show _ = _; rw [List.take_of_length_le (by omega)]
  have PL : Hid ((put L).length ≤ 10) := put_len10 _ (by omega)
  have hn' : L ≤ 1000000000000 := by omega
  rw [hL] at hcap U ⊢
  clear CE hk hf hL hl hlen hn
  go_enter Try.func41, Try.ntmps41
  go_wp2_with fail
  refine U.out.mono ?_
  rintro e w1 ⟨v1, rfl, r1, b1⟩
  have R1 : Hid (RowB 5 w.heap.size w1 v1 (put L)) := r1
  have B1 : Hid (Below w.heap.size w w1) := b1
  clear U r1 b1
  go_wp2_with fail
  go_loopw [5, 14] (fun vx vk wr => ∃ (k : Nat) (vv : Value), vv = vx ∧ vk = .int .i64 (k : Int) ∧ k ≤ L ∧ Hid (RowB 5 w.heap.size wr vv (put L ++ (fs.take k).flatten)) ∧ Hid (Below w.heap.size w wr)) (fun _ vk _ => L - (intOf vk).toNat)
  case atStart => exact ⟨0, _, rfl, rfl, by omega, by show RowB _ _ _ _ _; simpa using R1.out, B1.out⟩
  case round =>
    clear R1 B1
    obtain ⟨k, vv, rfl, rfl, hk, hown, hnx⟩ := hrel
    by_cases hlt : (k : Int) < (L : Int)
    · obtain ⟨g, o, rfl, rg⟩ := HC.out wr hnx.out k (by omega)
      have RG : Hid (wr.rangeAt g (o + k * 6) (cs.getD k [])) := rg
      have OB : Hid ((cs.getD k []).length = 6 ∧ ∀ u ∈ cs.getD k [], u.oneCell' = true) := HK.out k (by omega)
      have CF : Hid (∀ W, Below w.heap.size w W → Calls Try.prog 42 #[.agg (cs.getD k []).toArray] W (NewB W (fs.getD k []))) := HF.out k (by omega)
      have CT : Hid ((fs.take (k + 1)).flatten = (fs.take k).flatten ++ fs.getD k []) := FT.out k (by omega)
      have LT : Hid ((fs.take k).flatten.length + (fs.getD k []).length ≤ 1000000000000) := FL.out k (by omega)
      clear rg HC HK HF FT FL
      generalize cs.getD k [] = C at *
      generalize fs.getD k [] = f at *
      have NE : Hid (Blk wr.heap.size 28 [.int .i64 0, .int .i64 0, .int .i64 0, .int .i64 0, .int .i64 0, .bool false] (wr.alloc (.cells #[.int .i64 0, .int .i64 0, .int .i64 0, .int .i64 0, .int .i64 0, .bool false] 28))) := Blk.new _ _ _
      have WW : Hid (Below w.heap.size w (wr.alloc (.cells #[.int .i64 0, .int .i64 0, .int .i64 0, .int .i64 0, .int .i64 0, .bool false] 28))) := below_trans hnx.out (below_alloc _ _)
      have RR : Hid (RowB 5 w.heap.size (wr.alloc (.cells #[.int .i64 0, .int .i64 0, .int .i64 0, .int .i64 0, .int .i64 0, .bool false] 28)) vv (put L ++ (fs.take k).flatten)) := RowV.later hown.out (below_alloc _ _)
      have SZ : Hid (w.heap.size ≤ wr.heap.size) := hnx.out.size
      have RL : Hid (∀ g, vv.ownBlock = some g → g < wr.heap.size) := fun g hg => hown.out.block_lt hg
      clear hown hnx
      go_wp2_with (first
        | ((with_reducible refine at_loadT 28 ?_); refine step_load rfl 28 _ rfl g (o + k * 6) rfl C _ RG.out Try.underlying28 rfl (szNt OB.out.1) ?_)
        | ((with_reducible refine at_store ?_); refine step_store rfl 28 _ _ rfl wr.heap.size 0 28 [.int .i64 0, .int .i64 0, .int .i64 0, .int .i64 0, .int .i64 0, .bool false] C rfl rfl NE.out (by rw [OB.out.1]; decide) (szNt OB.out.1) OB.out.2 ?_; intro w4 nb4 g4; rw [store_all (by rw [OB.out.1]; rfl)] at nb4; have N4 : Hid (Blk wr.heap.size 28 C w4) := nb4; have R4 : Hid (RowB 5 w.heap.size w4 vv (put L ++ (fs.take k).flatten)) := RowV.kept RR.out g4 (fun g hg e => by have := RL.out g hg; injection e with e; omega); have W4 : Hid (Below w.heap.size w w4) := below_row WW.out g4 SZ.out; clear nb4 g4 NE RR WW)
        | ((with_reducible refine at_loadT 28 ?_); refine step_load rfl 28 _ rfl wr.heap.size 0 rfl C _ N4.out.all Try.underlying28 rfl (szNt OB.out.1) ?_))
      refine (CF.out _ W4.out).mono ?_
      rintro e w5 ⟨v5, rfl, r5, b5⟩
      have own5 := RowV.later R4.out b5
      have rd5 := RowV.rd r5
      have W5 := below_trans W4.out b5
      have sz5 := W5.size
      have one : ∀ u ∈ f.map bv, u.oneCell' = true := one_bv f
      have l1 : ((put L ++ (fs.take k).flatten).map bv).length + (f.map bv).length ≤ maxLen := by rw [List.length_map, List.length_map, List.length_append]; have := PL.out; have := LT.out; unfold maxLen; omega
      have l2 : (((put L ++ (fs.take k).flatten).map bv).length + (f.map bv).length) * 1 ≤ 140737488355328 := by rw [List.length_map, List.length_map, List.length_append]; have := PL.out; have := LT.out; omega
      clear r5 b5 N4 R4 W4 CF RG OB
      go_wp2_with (at_builtin; refine wpList_catV rfl (.tmp 18) (.tmp 21) 33 rfl 5 i0 (.int .u8 0) 1 underB hi hz0 hz1 hz2 rfl w.heap.size _ _ _ _ one rfl own5 sz5 rfl rd5 l1 l2 ?_; intro v' w3 hown' hgr)
      have hb : Below w.heap.size w w3 := below_grown W5 own5 (Nat.le_refl _) sz5 hgr
      go_roundw
      case rel =>
        refine ⟨k + 1, _, rfl, by go_num, by omega, ?_, hb⟩
        show RowB _ _ _ _ _
        rw [CT.out, ← List.append_assoc]
        simpa [RowB, List.map_append] using hown'
      case measure => simp [intOf]; omega
    · obtain rfl : k = L := by omega
      rw [FA.out] at hown
      clear HC HK HF FT FL
      go_wp2_with fail
      go_ret
      exact ⟨_, rfl, hown.out, hnx.out⟩
theorem szLn {C : List Value} (h : C.length = 46) : (Try.prog.info? 65).map (·.size) = some C.length := by rw [h]; kernel_rfl
set_option maxRecDepth 40000 in
set_option maxHeartbeats 2000000 in
theorem putListLn_at (cs : List (List Value)) (fs : List (List Nat)) (v : Value) (w : World) (h : RdS 46 w v cs) (hk : ∀ c ∈ cs, c.length = 46 ∧ ∀ u ∈ c, u.oneCell' = true) (hlen : fs.length = cs.length) (hn : cs.length ≤ 1000000000000) (hl : fs.flatten.length ≤ 1000000000000)
    (hf : ∀ i, i < cs.length → ∀ W, Below w.heap.size w W → Calls Try.prog 23 #[.agg (cs.getD i []).toArray] W (NewB W (fs.getD i []))) :
    Calls Try.prog 40 #[v, .func (.func 23) #[] #[]] w (NewB w (put cs.length ++ fs.flatten)) := by
  obtain ⟨i0, hi, hz0, hz1, hz2⟩ := info_parts infoB
  have U : Hid (Calls Try.prog 35 #[.int .u64 (cs.length : Int)] w (NewB w (put cs.length))) := putUint_at _ (by omega) w
  have CE : Hid (∀ w', Below w.heap.size w w' → RdS 46 w' v cs) := fun w' hb => h.later hb
  obtain ⟨ao, cap, rfl, hcap, hno, -⟩ := h
  obtain ⟨L, hL⟩ : ∃ L, cs.length = L := ⟨_, rfl⟩
  have HC : Hid (∀ w', Below w.heap.size w w' → ∀ i, i < L → ∃ g o, ao = some ⟨g, o, none⟩ ∧ w'.rangeAt g (o + i * 46) (cs.getD i [])) := fun w' hb i hi => by
    obtain ⟨ao', cap', e, _, _, H⟩ := CE.out w' hb
    injection e with e1 e2 e3
    subst e1
    obtain ⟨g, o, e, _, r⟩ := H i (by omega)
    exact ⟨g, o, e, r⟩
  have HK : Hid (∀ i, i < L → (cs.getD i []).length = 46 ∧ ∀ u ∈ cs.getD i [], u.oneCell' = true) := fun i hi => hk _ (by rw [List.getD_eq_getElem?_getD, List.getElem?_eq_getElem (by omega)]; exact List.getElem_mem _)
  have HF : Hid (∀ i, i < L → ∀ W, Below w.heap.size w W → Calls Try.prog 23 #[.agg (cs.getD i []).toArray] W (NewB W (fs.getD i []))) := fun i hi W hb => hf i (by omega) W hb
  have FT : Hid (∀ k, k < L → (fs.take (k + 1)).flatten = (fs.take k).flatten ++ fs.getD k []) := fun k hk => flat_take (by omega)
  have FL : Hid (∀ k, k < L → (fs.take k).flatten.length + (fs.getD k []).length ≤ 1000000000000) := fun k hk => by
    have h1 := lenS_take (rs := fs) (k := k) (by omega)
    have h2 := lenS_le fs (k + 1)
    unfold lenS at h1 h2
    omega
  have FA : Hid ((fs.take L).flatten = fs.flatten) := by show _ = _; rw [List.take_of_length_le (by omega)]
  have PL : Hid ((put L).length ≤ 10) := put_len10 _ (by omega)
  have hn' : L ≤ 1000000000000 := by omega
  rw [hL] at hcap U ⊢
  clear CE hk hf hL hl hlen hn
  go_enter Try.func40, Try.ntmps40
  go_wp2_with fail
  refine U.out.mono ?_
  rintro e w1 ⟨v1, rfl, r1, b1⟩
  have R1 : Hid (RowB 5 w.heap.size w1 v1 (put L)) := r1
  have B1 : Hid (Below w.heap.size w w1) := b1
  clear U r1 b1
  go_wp2_with fail
  go_loopw [5, 14] (fun vx vk wr => ∃ (k : Nat) (vv : Value), vv = vx ∧ vk = .int .i64 (k : Int) ∧ k ≤ L ∧ Hid (RowB 5 w.heap.size wr vv (put L ++ (fs.take k).flatten)) ∧ Hid (Below w.heap.size w wr)) (fun _ vk _ => L - (intOf vk).toNat)
  case atStart => exact ⟨0, _, rfl, rfl, by omega, by show RowB _ _ _ _ _; simpa using R1.out, B1.out⟩
  case round =>
    clear R1 B1
    obtain ⟨k, vv, rfl, rfl, hk, hown, hnx⟩ := hrel
    by_cases hlt : (k : Int) < (L : Int)
    · obtain ⟨g, o, rfl, rg⟩ := HC.out wr hnx.out k (by omega)
      have RG : Hid (wr.rangeAt g (o + k * 46) (cs.getD k [])) := rg
      have OB : Hid ((cs.getD k []).length = 46 ∧ ∀ u ∈ cs.getD k [], u.oneCell' = true) := HK.out k (by omega)
      have CF : Hid (∀ W, Below w.heap.size w W → Calls Try.prog 23 #[.agg (cs.getD k []).toArray] W (NewB W (fs.getD k []))) := HF.out k (by omega)
      have CT : Hid ((fs.take (k + 1)).flatten = (fs.take k).flatten ++ fs.getD k []) := FT.out k (by omega)
      have LT : Hid ((fs.take k).flatten.length + (fs.getD k []).length ≤ 1000000000000) := FL.out k (by omega)
      clear rg HC HK HF FT FL
      generalize cs.getD k [] = C at *
      generalize fs.getD k [] = f at *
      have NE : Hid (Blk wr.heap.size 65 [.int .i64 0, .int .i64 0, .int .i64 0, .int .i64 0, .int .i64 0, .int .i64 0, .int .i64 0, .slice none 0 0, .int .i64 0, .int .i64 0, .int .i64 0, .int .i64 0, .int .i64 0, .int .i64 0, .int .i64 0, .int .i64 0, .int .i64 0, .int .i64 0, .int .i64 0, .int .i64 0, .int .i64 0, .bool false, .int .i64 0, .int .i64 0, .int .i64 0, .int .i64 0, .int .i64 0, .int .i64 0, .int .i64 0, .int .i64 0, .int .i64 0, .int .i64 0, .int .i64 0, .int .i64 0, .int .i64 0, .int .i64 0, .int .i64 0, .int .i64 0, .int .i64 0, .int .i64 0, .int .i64 0, .int .i64 0, .int .i64 0, .bool false, .int .i64 0, .int .i64 0] (wr.alloc (.cells #[.int .i64 0, .int .i64 0, .int .i64 0, .int .i64 0, .int .i64 0, .int .i64 0, .int .i64 0, .slice none 0 0, .int .i64 0, .int .i64 0, .int .i64 0, .int .i64 0, .int .i64 0, .int .i64 0, .int .i64 0, .int .i64 0, .int .i64 0, .int .i64 0, .int .i64 0, .int .i64 0, .int .i64 0, .bool false, .int .i64 0, .int .i64 0, .int .i64 0, .int .i64 0, .int .i64 0, .int .i64 0, .int .i64 0, .int .i64 0, .int .i64 0, .int .i64 0, .int .i64 0, .int .i64 0, .int .i64 0, .int .i64 0, .int .i64 0, .int .i64 0, .int .i64 0, .int .i64 0, .int .i64 0, .int .i64 0, .int .i64 0, .bool false, .int .i64 0, .int .i64 0] 65))) := Blk.new _ _ _
      have WW : Hid (Below w.heap.size w (wr.alloc (.cells #[.int .i64 0, .int .i64 0, .int .i64 0, .int .i64 0, .int .i64 0, .int .i64 0, .int .i64 0, .slice none 0 0, .int .i64 0, .int .i64 0, .int .i64 0, .int .i64 0, .int .i64 0, .int .i64 0, .int .i64 0, .int .i64 0, .int .i64 0, .int .i64 0, .int .i64 0, .int .i64 0, .int .i64 0, .bool false, .int .i64 0, .int .i64 0, .int .i64 0, .int .i64 0, .int .i64 0, .int .i64 0, .int .i64 0, .int .i64 0, .int .i64 0, .int .i64 0, .int .i64 0, .int .i64 0, .int .i64 0, .int .i64 0, .int .i64 0, .int .i64 0, .int .i64 0, .int .i64 0, .int .i64 0, .int .i64 0, .int .i64 0, .bool false, .int .i64 0, .int .i64 0] 65))) := below_trans hnx.out (below_alloc _ _)
      have RR : Hid (RowB 5 w.heap.size (wr.alloc (.cells #[.int .i64 0, .int .i64 0, .int .i64 0, .int .i64 0, .int .i64 0, .int .i64 0, .int .i64 0, .slice none 0 0, .int .i64 0, .int .i64 0, .int .i64 0, .int .i64 0, .int .i64 0, .int .i64 0, .int .i64 0, .int .i64 0, .int .i64 0, .int .i64 0, .int .i64 0, .int .i64 0, .int .i64 0, .bool false, .int .i64 0, .int .i64 0, .int .i64 0, .int .i64 0, .int .i64 0, .int .i64 0, .int .i64 0, .int .i64 0, .int .i64 0, .int .i64 0, .int .i64 0, .int .i64 0, .int .i64 0, .int .i64 0, .int .i64 0, .int .i64 0, .int .i64 0, .int .i64 0, .int .i64 0, .int .i64 0, .int .i64 0, .bool false, .int .i64 0, .int .i64 0] 65)) vv (put L ++ (fs.take k).flatten)) := RowV.later hown.out (below_alloc _ _)
      have SZ : Hid (w.heap.size ≤ wr.heap.size) := hnx.out.size
      have RL : Hid (∀ g, vv.ownBlock = some g → g < wr.heap.size) := fun g hg => hown.out.block_lt hg
      clear hown hnx
      go_wp2_with (first
        | ((with_reducible refine at_loadT 65 ?_); refine step_load rfl 65 _ rfl g (o + k * 46) rfl C _ RG.out Try.underlying65 rfl (szLn OB.out.1) ?_)
        | ((with_reducible refine at_store ?_); refine step_store rfl 65 _ _ rfl wr.heap.size 0 65 [.int .i64 0, .int .i64 0, .int .i64 0, .int .i64 0, .int .i64 0, .int .i64 0, .int .i64 0, .slice none 0 0, .int .i64 0, .int .i64 0, .int .i64 0, .int .i64 0, .int .i64 0, .int .i64 0, .int .i64 0, .int .i64 0, .int .i64 0, .int .i64 0, .int .i64 0, .int .i64 0, .int .i64 0, .bool false, .int .i64 0, .int .i64 0, .int .i64 0, .int .i64 0, .int .i64 0, .int .i64 0, .int .i64 0, .int .i64 0, .int .i64 0, .int .i64 0, .int .i64 0, .int .i64 0, .int .i64 0, .int .i64 0, .int .i64 0, .int .i64 0, .int .i64 0, .int .i64 0, .int .i64 0, .int .i64 0, .int .i64 0, .bool false, .int .i64 0, .int .i64 0] C rfl rfl NE.out (by rw [OB.out.1]; decide) (szLn OB.out.1) OB.out.2 ?_; intro w4 nb4 g4; rw [store_all (by rw [OB.out.1]; rfl)] at nb4; have N4 : Hid (Blk wr.heap.size 65 C w4) := nb4; have R4 : Hid (RowB 5 w.heap.size w4 vv (put L ++ (fs.take k).flatten)) := RowV.kept RR.out g4 (fun g hg e => by have := RL.out g hg; injection e with e; omega); have W4 : Hid (Below w.heap.size w w4) := below_row WW.out g4 SZ.out; clear nb4 g4 NE RR WW)
        | ((with_reducible refine at_loadT 65 ?_); refine step_load rfl 65 _ rfl wr.heap.size 0 rfl C _ N4.out.all Try.underlying65 rfl (szLn OB.out.1) ?_))
      refine (CF.out _ W4.out).mono ?_
      rintro e w5 ⟨v5, rfl, r5, b5⟩
      have own5 := RowV.later R4.out b5
      have rd5 := RowV.rd r5
      have W5 := below_trans W4.out b5
      have sz5 := W5.size
      have one : ∀ u ∈ f.map bv, u.oneCell' = true := one_bv f
      have l1 : ((put L ++ (fs.take k).flatten).map bv).length + (f.map bv).length ≤ maxLen := by rw [List.length_map, List.length_map, List.length_append]; have := PL.out; have := LT.out; unfold maxLen; omega
      have l2 : (((put L ++ (fs.take k).flatten).map bv).length + (f.map bv).length) * 1 ≤ 140737488355328 := by rw [List.length_map, List.length_map, List.length_append]; have := PL.out; have := LT.out; omega
      clear r5 b5 N4 R4 W4 CF RG OB
      go_wp2_with (at_builtin; refine wpList_catV rfl (.tmp 18) (.tmp 21) 33 rfl 5 i0 (.int .u8 0) 1 underB hi hz0 hz1 hz2 rfl w.heap.size _ _ _ _ one rfl own5 sz5 rfl rd5 l1 l2 ?_; intro v' w3 hown' hgr)
      have hb : Below w.heap.size w w3 := below_grown W5 own5 (Nat.le_refl _) sz5 hgr
      go_roundw
      case rel =>
        refine ⟨k + 1, _, rfl, by go_num, by omega, ?_, hb⟩
        show RowB _ _ _ _ _
        rw [CT.out, ← List.append_assoc]
        simpa [RowB, List.map_append] using hown'
      case measure => simp [intOf]; omega
    · obtain rfl : k = L := by omega
      rw [FA.out] at hown
      clear HC HK HF FT FL
      go_wp2_with fail
      go_ret
      exact ⟨_, rfl, hown.out, hnx.out⟩
end Go.Proofs.Ytdbjjeaflfoppaa
