/-
  Ours: the reference's Lines.
-/
import Derived.Test.YtcbdbjejodpnaaaScLns
import Derived.Test.YtcbdbjejodpnaaaWirNear
namespace Go.Proofs.Ytcbdbjejodpnaaa
open Go.RowKit

/-- Rows of bytes and one more row, apart from them. -/
structure RfR (base : Nat) (wr : World) (vo vl : Value) (ls : List (List Nat)) (cur : List Nat) : Prop where
  row : ∃ vs : List Value, RowV 22 base wr vo vs ∧ vs.length = ls.length ∧ (∀ x ∈ vs.zip ls, RowB 5 base wr x.1 x.2) ∧ vs.Pairwise (fun a b => ∀ g, a.ownBlock = some g → b.ownBlock ≠ some g) ∧ ∀ y ∈ vs, ∀ g, y.ownBlock = some g → vl.ownBlock ≠ some g
  line : RowB 5 base wr vl cur
theorem RfR.rows {base : Nat} {wr : World} {vo vl : Value} {ls : List (List Nat)} {cur : List Nat} (h : RfR base wr vo vl ls cur) : RowsV base wr vo ls := by
  obtain ⟨vs, h1, h2, h3, h4, -⟩ := h.row
  exact ⟨vs, h1, h2, h3, h4⟩
theorem RfR.cleared {base : Nat} {wr : World} {vo vl : Value} {ls : List (List Nat)} {cur : List Nat} (h : RfR base wr vo vl ls cur) : RfR base wr vo (.slice none 0 0) ls [] := by
  obtain ⟨vs, h1, h2, h3, h4, -⟩ := h.row
  exact ⟨⟨vs, h1, h2, h3, h4, fun y _ g _ e => by simp [Value.ownBlock] at e⟩, RowV.nil _ _ _⟩
theorem RfR.of_rows {base : Nat} {wr : World} {vo : Value} {ls : List (List Nat)} (h : RowsV base wr vo ls) : RfR base wr vo (.slice none 0 0) ls [] := by
  obtain ⟨vs, h1, h2, h3, h4⟩ := h.row
  exact ⟨⟨vs, h1, h2, h3, h4, fun y _ g _ e => by simp [Value.ownBlock] at e⟩, RowV.nil _ _ _⟩
/-- A byte more in the line. -/
theorem RfR.grow {base : Nat} {wr w1 : World} {vo vl v' : Value} {ls : List (List Nat)} {cur : List Nat} {c : Nat} (h : RfR base wr vo vl ls cur) (r : RowB 5 base w1 v' (cur ++ [c])) (g : wr.grownBy w1 vl.ownBlock) (n : Near wr vl v') : RfR base w1 vo v' ls (cur ++ [c]) := by
  obtain ⟨vs, h1, h2, h3, h4, h5⟩ := h.row
  refine ⟨⟨vs, RowV.kept h1 g (fun q hq e => rows_ne h1 h.line (by decide) hq e), h2, fun x hx => RowV.kept (h3 x hx) g (fun q hq e => h5 x.1 (List.of_mem_zip hx).1 q hq e), h4, fun y hy q hq e => ?_⟩, r⟩
  rcases n q e with e' | e'
  · exact h5 y hy q hq e'
  · obtain ⟨z, hz⟩ := zip_mem h2 hy
    have := (h3 _ hz).block_lt hq
    omega
/-- The line put behind the rows. -/
theorem RfR.put {base : Nat} {wr w1 : World} {vo vl v' : Value} {ls : List (List Nat)} {cur : List Nat} {vs : List Value} (h1 : RowV 22 base wr vo vs) (h2 : vs.length = ls.length) (h3 : ∀ x ∈ vs.zip ls, RowB 5 base wr x.1 x.2) (h4 : vs.Pairwise (fun a b => ∀ g, a.ownBlock = some g → b.ownBlock ≠ some g)) (h5 : ∀ y ∈ vs, ∀ g, y.ownBlock = some g → vl.ownBlock ≠ some g) (hl : RowB 5 base wr vl cur) (r : RowV 22 base w1 v' (vs ++ [vl])) (g : wr.grownBy w1 vo.ownBlock) : RfR base w1 v' (.slice none 0 0) (ls ++ [cur]) [] :=
  RfR.of_rows (RowsV.push h1 h2 h3 h4 hl h5 r g)

structure RfI (bs : List Nat) (w : World) (vo vl : Value) (i : Nat) (ls : List (List Nat)) (cur : List Nat) (wr : World) : Prop where
  r : RfR w.heap.size wr vo vl ls cur
  bel : Below w.heap.size w wr
  le : i ≤ bs.length + 1
  a : i ≤ bs.length → ls ++ ScM.lnsA cur (bs.drop i) = ScM.lns bs
  b : i = bs.length + 1 → ls = ScM.lns bs
  cl : cur.length ≤ i
theorem RfI.cnt {bs cur : List Nat} {w wr : World} {vo vl : Value} {i : Nat} {ls : List (List Nat)} (h : RfI bs w vo vl i ls cur wr) : ls.length ≤ bs.length := by
  have h1 := ScM.lns_len bs
  by_cases hi : i ≤ bs.length
  · have := congrArg List.length (h.a hi); simp at this; omega
  · rw [h.b (by have := h.le; omega)]; exact h1
theorem drop_next {bs : List Nat} {i : Nat} (h : i < bs.length) : bs.drop i = bs.getD i 0 :: bs.drop (i + 1) := by
  rw [List.getD_eq_getElem?_getD, List.getElem?_eq_getElem h]
  exact List.drop_eq_getElem_cons h
/-- A byte is taken on. -/
theorem RfI.grow {bs cur : List Nat} {w wr w1 : World} {vo vl v' : Value} {i : Nat} {ls : List (List Nat)} (h : RfI bs w vo vl i ls cur wr) (hi : i < bs.length) (hc : ¬ bs.getD i 0 = 10) (r : RowB 5 w.heap.size w1 v' (cur ++ [bs.getD i 0])) (g : wr.grownBy w1 vl.ownBlock) (n : Near wr vl v') : RfI bs w vo v' (i + 1) ls (cur ++ [bs.getD i 0]) w1 := by
  refine ⟨h.r.grow r g n, below_grown h.bel h.r.line (Nat.le_refl _) h.bel.size g, by omega, fun _ => ?_, (fun e => by omega), by have := h.cl; simp; omega⟩
  have := h.a (by omega)
  rw [drop_next hi, ScM.lnsA, if_neg hc] at this
  exact this
/-- A line ends. -/
theorem RfI.ends {bs cur : List Nat} {w wr w1 : World} {vo vl v' : Value} {i : Nat} {ls ls' : List (List Nat)} (h : RfI bs w vo vl i ls cur wr) (hi : i ≤ bs.length) (hc : i < bs.length → bs.getD i 0 = 10) (hk : ls' = ls ++ ScM.keep cur) (r : RfR w.heap.size w1 v' (.slice none 0 0) ls' []) (b : Below w.heap.size w w1) : RfI bs w v' (.slice none 0 0) (i + 1) ls' [] w1 := by
  have ha := h.a hi
  refine ⟨r, b, by omega, fun hl => ?_, fun e => ?_, by simp⟩
  · have hi' : i < bs.length := by omega
    rw [drop_next hi', hc hi', ScM.lnsA, if_pos rfl, ← List.append_assoc] at ha
    rw [hk]; exact ha
  · have hi' : i = bs.length := by omega
    subst hi'
    rw [List.drop_length, ScM.lnsA] at ha
    rw [hk]; exact ha

set_option maxRecDepth 20000 in
set_option maxHeartbeats 4000000 in
theorem rlines_at (bs : List Nat) (v : Value) (w : World) (hl : bs.length ≤ 1000000000) (h : RdB w v bs) : Calls Try.prog 10 #[v] w (NewLs w (ScM.lns bs)) := by
  obtain ⟨i0, hi, hz0, hz1, hz2⟩ := info_parts infoS
  obtain ⟨j0, hj, hy0, hy1, hy2⟩ := info_parts infoB
  have H0 : Hid (RfI bs w (.slice none 0 0) (.slice none 0 0) 0 [] [] w) := ⟨RfR.of_rows (RowsV.nil _ _), Below.refl _ _, by omega, fun _ => by simp [ScM.lns], (fun e => by omega), by simp⟩
  obtain ⟨ao, cap, rfl, -, -⟩ := h.len
  rw [List.length_map] at h ⊢
  obtain ⟨-, -, CC⟩ := RdB.cell h
  have HC : Hid (∀ i, i < bs.length → ∃ g o, ao = some ⟨g, o, none⟩ ∧ g < w.heap.size ∧ w.cell? ⟨g, o + i, none⟩ = some (.int .u8 ((bs.getD i 0 : Nat) : Int))) := CC
  obtain ⟨L, hL⟩ : ∃ L, bs.length = L := ⟨_, rfl⟩
  have HL : Hid (bs.length = L) := hL
  rw [hL] at HC hl ⊢
  clear h CC hL
  go_enter Try.func10, Try.ntmps10
  go_wp2_with fail
  go_loopw [3, 4, 5] (fun vo vl vk wr => ∃ (k : Nat) (ls : List (List Nat)) (cur : List Nat), vk = .int .i64 (k : Int) ∧ k ≤ L + 1 ∧ Hid (RfI bs w vo vl k ls cur wr)) (fun _ _ vk _ => L + 1 - (intOf vk).toNat)
  case atStart => exact ⟨0, [], [], rfl, by omega, H0⟩
  case round =>
    clear H0
    obtain ⟨k, ls, cur, rfl, hk, I⟩ := hrel
    have hsz := I.out.bel.size
    have lcur : cur.length ≤ 1000000001 := by have := I.out.cl; omega
    by_cases hle : (k : Int) ≤ (L : Int)
    · -- what happens at a line's end
      by_cases hlt : (k : Int) < (L : Int)
      · obtain ⟨g, o, ea, glt, cc⟩ := HC.out k (by omega)
        have cc2 : wr.cell? ⟨g, o + k, none⟩ = some (.int .u8 ((bs.getD k 0 : Nat) : Int)) := (I.out.bel.cell (p := ⟨g, o + k, none⟩) glt).trans cc
        subst ea
        clear cc glt HC
        by_cases h10 : bs.getD k 0 = 10
        · rw [h10] at cc2
          have hc : Hid (k < bs.length → bs.getD k 0 = 10) := fun _ => h10
          clear h10
          by_cases hc0 : cur.length = 0
          · have NX : Hid (RfI bs w u3 (.slice none 0 0) (k + 1) ls [] wr) := I.out.ends (by have := HL.out; omega) hc.out (by unfold ScM.keep; rw [if_pos hc0, List.append_nil]) I.out.r.cleared I.out.bel
            obtain ⟨la, lc, el, -, -⟩ := (RowV.rd I.out.r.line).len
            rw [List.length_map] at el
            subst el
            have d0 : ¬ (0 : Int) < (cur.length : Int) := by omega
            clear I
            generalize cur.length = C at *
            go_wp2_with fail
            go_roundw
            case rel => exact ⟨k + 1, ls, [], by go_num, by omega, NX⟩
            case measure => simp [intOf] <;> omega
          · obtain ⟨q, lc, el, hqc, lcell, -⟩ := RowV.own I.out.r.line (by rw [List.length_map]; omega)
            have c0 := lcell 0 (by rw [List.length_map]; omega)
            rw [getD_bv] at c0
            rw [List.length_map] at el
            subst el
            have d0 : (0 : Int) < (cur.length : Int) := by omega
            by_cases h35 : cur.getD 0 0 = 35
            · have NX : Hid (RfI bs w u3 (.slice none 0 0) (k + 1) ls [] wr) := I.out.ends (by have := HL.out; omega) hc.out (by unfold ScM.keep; rw [if_neg hc0, if_pos h35, List.append_nil]) I.out.r.cleared I.out.bel
              rw [h35] at c0
              clear I lcell h35 hqc
              generalize cur.length = C at *
              go_wp2_with fail
              go_roundw
              case rel => exact ⟨k + 1, ls, [], by go_num, by omega, NX⟩
              case measure => simp [intOf] <;> omega
            · have d1 : (((cur.getD 0 0 : Nat) : Int) != 35) = true := bne_iff_ne.2 (by omega)
              have CNT := I.out.cnt
              obtain ⟨vs, h1, h2, h3, h4, h5⟩ := I.out.r.row
              have hll := HL.out
              have l1 : vs.length + 1 ≤ maxLen := by unfold maxLen; omega
              have l2 : (vs.length + 1) * 24 ≤ 140737488355328 := by omega
              have NX : Hid (∀ w1 v', RowV 22 w.heap.size w1 v' (vs ++ [.slice (some ⟨q, 0, none⟩) cur.length lc]) → wr.grownBy w1 u3.ownBlock → RfI bs w v' (.slice none 0 0) (k + 1) (ls ++ [cur]) [] w1) := fun w1 v' r g => I.out.ends (by have := HL.out; omega) hc.out (by unfold ScM.keep; rw [if_neg hc0, if_neg h35]) (RfR.put h1 h2 h3 h4 h5 I.out.r.line r g) (below_grown I.out.bel h1 (Nat.le_refl _) hsz g)
              have own1 : RowV 22 w.heap.size wr u3 vs := h1
              clear I lcell h35 hqc h1 h2 h3 h4 h5 hll CNT
              generalize cur.getD 0 0 = X at *
              generalize cur.length = C at *
              go_wp2_with (at_builtin; refine wpList_pushV rfl (.tmp 39) (.tmp 41) 24 rfl 22 i0 (.slice none 0 0) 24 underS hi hz0 hz1 hz2 rfl w.heap.size _ _ _ rfl rfl own1 hsz rfl l1 l2 ?_; intro v' w2 hown' hgr)
              have NX2 : Hid (RfI bs w v' (.slice none 0 0) (k + 1) (ls ++ [cur]) [] w2) := NX.out w2 v' hown' hgr
              clear NX hown' hgr own1
              go_roundw
              case rel => exact ⟨k + 1, ls ++ [cur], [], by go_num, by omega, NX2⟩
              case measure => simp [intOf] <;> omega
        · have d1 : (((bs.getD k 0 : Nat) : Int) != 10) = true := bne_iff_ne.2 (by omega)
          have l1 : (cur.map bv).length + 1 ≤ maxLen := by rw [List.length_map]; unfold maxLen; omega
          have l2 : ((cur.map bv).length + 1) * 1 ≤ 140737488355328 := by rw [List.length_map]; omega
          have NX : Hid (∀ w1 v', RowB 5 w.heap.size w1 v' (cur ++ [bs.getD k 0]) → wr.grownBy w1 u4.ownBlock → Near wr u4 v' → RfI bs w u3 v' (k + 1) ls (cur ++ [bs.getD k 0]) w1) := fun w1 v' r g n => I.out.grow (by have := HL.out; omega) h10 r g n
          have own1 : RowB 5 w.heap.size wr u4 cur := I.out.r.line
          clear I h10
          generalize bs.getD k 0 = X at *
          go_wp2_with (at_builtin; refine wpList_pushN rfl (.tmp 23) (.tmp 28) 22 rfl 5 j0 (.int .u8 0) 1 underB hj hy0 hy1 hy2 rfl w.heap.size _ _ _ rfl rfl own1 hsz rfl l1 l2 ?_; intro v' w2 hown' hgr hnr)
          have NX2 : Hid (RfI bs w u3 v' (k + 1) ls (cur ++ [X]) w2) := NX.out w2 v' (rowB_push hown' rfl) hgr hnr
          clear NX hown' hgr hnr own1
          go_roundw
          case rel => exact ⟨k + 1, ls, cur ++ [X], by go_num, by omega, NX2⟩
          case measure => simp [intOf] <;> omega
      · obtain rfl : k = L := by omega
        have hc : Hid (k < bs.length → bs.getD k 0 = 10) := fun h => by have := HL.out; omega
        clear HC
        by_cases hc0 : cur.length = 0
        · have NX : Hid (RfI bs w u3 (.slice none 0 0) (k + 1) ls [] wr) := I.out.ends (by have := HL.out; omega) hc.out (by unfold ScM.keep; rw [if_pos hc0, List.append_nil]) I.out.r.cleared I.out.bel
          obtain ⟨la, lc, el, -, -⟩ := (RowV.rd I.out.r.line).len
          rw [List.length_map] at el
          subst el
          have d0 : ¬ (0 : Int) < (cur.length : Int) := by omega
          clear I
          generalize cur.length = C at *
          go_wp2_with fail
          go_roundw
          case rel => exact ⟨k + 1, ls, [], by go_num, by omega, NX⟩
          case measure => simp [intOf] <;> omega
        · obtain ⟨q, lc, el, hqc, lcell, -⟩ := RowV.own I.out.r.line (by rw [List.length_map]; omega)
          have c0 := lcell 0 (by rw [List.length_map]; omega)
          rw [getD_bv] at c0
          rw [List.length_map] at el
          subst el
          have d0 : (0 : Int) < (cur.length : Int) := by omega
          by_cases h35 : cur.getD 0 0 = 35
          · have NX : Hid (RfI bs w u3 (.slice none 0 0) (k + 1) ls [] wr) := I.out.ends (by have := HL.out; omega) hc.out (by unfold ScM.keep; rw [if_neg hc0, if_pos h35, List.append_nil]) I.out.r.cleared I.out.bel
            rw [h35] at c0
            clear I lcell h35 hqc
            generalize cur.length = C at *
            go_wp2_with fail
            go_roundw
            case rel => exact ⟨k + 1, ls, [], by go_num, by omega, NX⟩
            case measure => simp [intOf] <;> omega
          · have d1 : (((cur.getD 0 0 : Nat) : Int) != 35) = true := bne_iff_ne.2 (by omega)
            have CNT := I.out.cnt
            obtain ⟨vs, h1, h2, h3, h4, h5⟩ := I.out.r.row
            have hll := HL.out
            have l1 : vs.length + 1 ≤ maxLen := by unfold maxLen; omega
            have l2 : (vs.length + 1) * 24 ≤ 140737488355328 := by omega
            have NX : Hid (∀ w1 v', RowV 22 w.heap.size w1 v' (vs ++ [.slice (some ⟨q, 0, none⟩) cur.length lc]) → wr.grownBy w1 u3.ownBlock → RfI bs w v' (.slice none 0 0) (k + 1) (ls ++ [cur]) [] w1) := fun w1 v' r g => I.out.ends (by have := HL.out; omega) hc.out (by unfold ScM.keep; rw [if_neg hc0, if_neg h35]) (RfR.put h1 h2 h3 h4 h5 I.out.r.line r g) (below_grown I.out.bel h1 (Nat.le_refl _) hsz g)
            have own1 : RowV 22 w.heap.size wr u3 vs := h1
            clear I lcell h35 hqc h1 h2 h3 h4 h5 hll CNT
            generalize cur.getD 0 0 = X at *
            generalize cur.length = C at *
            go_wp2_with (at_builtin; refine wpList_pushV rfl (.tmp 39) (.tmp 41) 24 rfl 22 i0 (.slice none 0 0) 24 underS hi hz0 hz1 hz2 rfl w.heap.size _ _ _ rfl rfl own1 hsz rfl l1 l2 ?_; intro v' w2 hown' hgr)
            have NX2 : Hid (RfI bs w v' (.slice none 0 0) (k + 1) (ls ++ [cur]) [] w2) := NX.out w2 v' hown' hgr
            clear NX hown' hgr own1
            go_roundw
            case rel => exact ⟨k + 1, ls ++ [cur], [], by go_num, by omega, NX2⟩
            case measure => simp [intOf] <;> omega
    · obtain rfl : k = L + 1 := by omega
      obtain ⟨a, c, e, -⟩ := I.out.r.rows.rd.len
      subst e
      have hlast : ls = ScM.lns bs := I.out.b (by rw [HL.out])
      have FIN : Hid (NewLs w (ScM.lns bs) (.returned (.slice a ls.length c)) wr) := ⟨a, c, by rw [hlast], by rw [← hlast]; exact I.out.r.rows, I.out.bel⟩
      clear I hlast HC
      go_wp2_with fail
      go_ret
      exact FIN.out
end Go.Proofs.Ytcbdbjejodpnaaa
