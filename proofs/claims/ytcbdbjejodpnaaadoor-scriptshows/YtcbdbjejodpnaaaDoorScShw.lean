/-
  Ours: script.Show and the reference's Show.
-/
import Derived.Test.YtcbdbjejodpnaaaDoorScApp
import Derived.Test.YtcbdbjejodpnaaaDoorScDec
import Derived.Lib.SlBytesConst
namespace Go.Proofs.YtcbdbjejodpnaaaDoor
open Go.RowKit Go.Lib

/-- A reply's text. -/
def headL (err : Int) : List UInt8 := if err = 0 then [111, 107] else [101, 114, 114, 111, 114, 32] ++ itoa err
def numsL : List Int → List UInt8
  | [] => []
  | n :: r => 32 :: itoa n ++ numsL r
def showL (err : Int) (zs : List Int) : List UInt8 := headL err ++ numsL zs
theorem numsL_app : ∀ a b : List Int, numsL (a ++ b) = numsL a ++ numsL b
  | [], b => rfl
  | n :: a, b => by simp [numsL, numsL_app a b]
theorem show_next (err : Int) (zs : List Int) (k : Nat) (h : k < zs.length) : showL err (zs.take (k + 1)) = showL err (zs.take k) ++ [32] ++ itoa (zs.getD k 0) := by
  have e : zs.take (k + 1) = zs.take k ++ [zs.getD k 0] := by rw [List.take_add_one, List.getElem?_eq_getElem h, List.getD_eq_getElem?_getD, List.getElem?_eq_getElem h]; rfl
  rw [showL, e, numsL_app, showL]
  simp [numsL]
theorem itoa_len (n : Int) (h0 : -9223372036854775808 ≤ n) (h1 : n ≤ 9223372036854775807) : (itoa n).length ≤ 21 ∧ 0 < (itoa n).length := by
  unfold itoa
  split
  · have := dec_len n.natAbs (by omega); simp; omega
  · have := dec_len n.toNat (by omega); omega
theorem numsL_len : ∀ zs : List Int, (∀ z ∈ zs, -9223372036854775808 ≤ z ∧ z ≤ 9223372036854775807) → (numsL zs).length ≤ 22 * zs.length
  | [], _ => by simp [numsL]
  | n :: r, h => by
    have h1 := (itoa_len n (h n (by simp)).1 (h n (by simp)).2).1
    have h2 := numsL_len r (fun z hz => h z (by simp [hz]))
    simp [numsL]; omega
theorem headL_len (err : Int) (h0 : -9223372036854775808 ≤ err) (h1 : err ≤ 9223372036854775807) : (headL err).length ≤ 27 ∧ 0 < (headL err).length := by
  have := itoa_len err h0 h1
  unfold headL
  split
  · simp
  · simp; omega
theorem show_len (err : Int) (h0 : -9223372036854775808 ≤ err) (h1 : err ≤ 9223372036854775807) (zs : List Int) (hz : ∀ z ∈ zs, -9223372036854775808 ≤ z ∧ z ≤ 9223372036854775807) : (showL err zs).length ≤ 27 + 22 * zs.length ∧ 0 < (showL err zs).length := by
  have := headL_len err h0 h1
  have := numsL_len zs hz
  simp [showL]; omega

/-- A text of the call's own, or a literal's row. -/
def TxR (B : Nat) (w : World) (v : Value) (l : List UInt8) : Prop := RowV 5 B w v (byteCells l) ∨ (l.length ≤ 1000 ∧ ∃ g, v = .slice (some ⟨g, 0, none⟩) l.length l.length ∧ ∀ j u, (byteCells l)[j]? = some u → w.cell? ((⟨g, 0, none⟩ : Addr).add j) = some u)
theorem TxR.cells {B : Nat} {w : World} {v : Value} {l : List UInt8} (h : TxR B w v l) (h0 : 0 < l.length) : ∃ g cap, v = .slice (some ⟨g, 0, none⟩) l.length cap ∧ ∀ j (hj : j < l.length), w.cell? ((⟨g, 0, none⟩ : Addr).add j) = some (.int .u8 (l[j].toNat : Int)) := by
  have hg : ∀ j (hj : j < l.length), (byteCells l)[j]? = some (.int .u8 (l[j].toNat : Int)) := fun j hj => by simp [byteCells, hj]
  rcases h with h | ⟨-, g, e, hc⟩
  · have hl : (byteCells l).length = l.length := byteCells_length l
    rcases h.2 with ⟨e1, e2⟩ | ⟨g, cap, cur, e1, _⟩
    · omega
    · subst e1
      refine ⟨g, cap, by rw [hl], fun j hj => ?_⟩
      exact World.ownsRow.cells h rfl j _ (hg j hj)
  · exact ⟨g, l.length, e, fun j hj => hc j _ (hg j hj)⟩
theorem TxR.later {B : Nat} {w w' : World} {v : Value} {l : List UInt8} (h : TxR B w v l) (b : Below w.heap.size w w') : TxR B w' v l := by
  rcases h with h | ⟨h1, g, e, hc⟩
  · exact .inl (RowV.later h b)
  · refine .inr ⟨h1, g, e, fun j u hj => ?_⟩
    have h2 := hc j u hj
    rw [Lib.add_plain] at h2 ⊢
    exact (b.cell (p := ⟨g, 0 + j, none⟩) (World.block_lt_of_cell? _ _ h2)).trans h2
theorem TxR.conv {B : Nat} {w : World} {v : Value} {l : List UInt8} (h : TxR B w v l) (h0 : 0 < l.length) : (convert 33 9 v).run Tryd.prog w = .ok (.string ⟨l.toArray⟩) w := by
  obtain ⟨g, cap, rfl, hc⟩ := h.cells h0
  exact run_convert_bytes_back (P := Tryd.prog) w 33 9 5 ⟨g, 0, none⟩ cap l (by kernel_rfl) (by kernel_rfl) (by kernel_rfl) hc

/-- 'append(text, s...)' -/
theorem wpList_txS {w : World} {ops : Array Oper} {rest : List Oper} {o : Oper} {a : Act} {Q : Exit → Act → World → Prop} (hgd : o.guard = none) (sl x : Operand)
    (ho : o.op = .call { callee := .builtin .append, args := #[sl, x], argTypes := #[33, 9] })
    (B : Nat) (v : Value) (l s : List UInt8) (hs : a.eval sl = v) (hown : TxR B w v l) (hx : a.eval x = .string ⟨s.toArray⟩) (hB : B ≤ w.heap.size)
    (h0 : 0 < s.length) (hl : l.length + s.length ≤ 1000000000)
    (h : ∀ v' w', RowV 5 B w' v' (byteCells (l ++ s)) → Below B w w' → wpList Tryd.prog ops Q rest (a.put o.dst v') w') : wpList Tryd.prog ops Q (o :: rest) a w := by
  obtain ⟨i0, hi, hz0, hz1, hz2⟩ := info_parts infoU
  have e1 : strCells ⟨s.toArray⟩ = byteCells s := rfl
  have e2 : byteCells (l ++ s) = byteCells l ++ byteCells s := by simp [byteCells]
  have hsz : (⟨s.toArray⟩ : ByteArray).size = s.length := by simp [ByteArray.size]
  have hml : maxLen = 9223372036854775807 := rfl
  rcases hown with hown | ⟨h1, g, rfl, hc⟩
  · refine wpList_append_own_string _ hgd sl x 33 9 ho B 5 i0 underU underT hi hz0 hz1 hz2 v l.length (byteCells l) hs (by have := hown; rw [RowV, byteCells_length] at this; exact this) ⟨s.toArray⟩ hx (by omega) (by omega) hB ?_
    intro v' w' o' gr _
    rw [e1, hsz] at o'
    refine h v' w' (by rw [RowV, e2, List.length_append, byteCells_length, byteCells_length]; exact o') ?_
    exact (Below.refl B w).grown gr hB (fun k hk => (hown.lt k hk).1)
  · refine wpList_grow_string hgd sl x 33 9 ho 5 i0 underU underT hi hz0 hz1 hz2 g l.length (byteCells l) hs (byteCells_length l) hc ⟨s.toArray⟩ hx (by omega) (by omega) (by omega) ?_
    intro v' w' o' gr
    rw [e1, hsz] at o'
    refine h v' w' (RowV.mono (base := w.heap.size) (by rw [RowV, e2, List.length_append, byteCells_length, byteCells_length]; exact o') hB) ?_
    exact (below_none gr).mono hB
theorem appInt_tx (i : Int) (h0 : -9223372036854775808 ≤ i) (h1 : i ≤ 9223372036854775807) (w0 : World) (htab : TabW w0) (v : Value) (l : List UInt8) (w : World) (hb : Below w0.heap.size w0 w) (hl : l.length ≤ 1000000000) (h : RowV 5 w0.heap.size w v (byteCells l)) :
    Calls Tryd.prog 10 #[v, .int .i64 i, .int .i64 10] w fun e w' => ∃ v', e = .returned v' ∧ RowV 5 w0.heap.size w' v' (byteCells (l ++ itoa i)) ∧ Below w0.heap.size w0 w' := by
  have h' : w.ownsRow w0.heap.size 5 1 v l.length (byteCells l) := by rw [RowV, byteCells_length] at h; exact h
  refine (Tryd.strconv_AppendInt_10 w0.heap.size l.length i h0 h1 v (byteCells l) w h' hb.size (by omega) (tab_under htab hb)).mono ?_
  rintro e w' ⟨v', rfl, o, b, _⟩
  refine ⟨v', rfl, ?_, hb.trans b⟩
  have e2 : byteCells (l ++ itoa i) = byteCells l ++ byteCells (itoa i) := by simp [byteCells]
  rw [RowV, e2, List.length_append, byteCells_length, byteCells_length]
  exact o

abbrev RpV (err : Int) (sv : Value) : Value := .agg #[.int .i64 err, sv]
structure Rep (err : Int) (zs : List Int) : Prop where
  e0 : -9223372036854775808 ≤ err
  e1 : err ≤ 9223372036854775807
  zb : ∀ z ∈ zs, -9223372036854775808 ≤ z ∧ z ≤ 9223372036854775807
  len : zs.length ≤ 1000000
theorem Rep.at {err : Int} {zs : List Int} (h : Rep err zs) (k : Nat) : -9223372036854775808 ≤ zs.getD k 0 ∧ zs.getD k 0 ≤ 9223372036854775807 := by
  rw [List.getD_eq_getElem?_getD]
  cases e : zs[k]? with
  | none => simp
  | some y => exact h.zb y (List.mem_of_getElem? e)
theorem Rep.lenk {err : Int} {zs : List Int} (h : Rep err zs) (k : Nat) : (showL err (zs.take k)).length ≤ 22000027 ∧ 0 < (showL err (zs.take k)).length := by
  have h1 := show_len err h.e0 h.e1 (zs.take k) (fun z hz => h.zb z (List.mem_of_mem_take hz))
  have h2 := h.len
  rw [List.length_take] at h1
  omega
theorem rd_iv {w : World} {ao : Option Addr} {n cap : Nat} {zs : List Int} (h : Rd w (.slice ao n cap) (zs.map iv)) : n = zs.length ∧ n ≤ cap ∧ ∀ i, i < n → ∃ g o, ao = some ⟨g, o, none⟩ ∧ g < w.heap.size ∧ w.cell? ⟨g, o + i, none⟩ = some (.int .i64 (zs.getD i 0)) := by
  obtain ⟨ao', c', e, h1, _, H⟩ := h
  injection e with e1 e2 e3
  subst e1 e3
  rw [List.length_map] at e2 h1
  subst e2
  refine ⟨rfl, h1, fun i hi => ?_⟩
  obtain ⟨g, o, e1, lt, e2⟩ := H i (by rw [List.length_map]; exact hi)
  refine ⟨g, o, e1, lt, ?_⟩
  rw [e2, List.getElem_map, List.getD_eq_getElem?_getD, List.getElem?_eq_getElem hi]
  rfl
theorem cell_lit (w : World) (C : List UInt8) (fr : Nat × Nat) : ∀ j u, (byteCells C)[j]? = some u → (w.alloc (.cells (byteCells C).toArray 5 fr)).cell? ((⟨w.heap.size, 0, none⟩ : Addr).add j) = some u := by
  intro j u hj
  rw [Lib.add_plain, Nat.zero_add, World.cell?_alloc_mark]
  simpa using hj

set_option maxRecDepth 20000 in
set_option maxHeartbeats 4000000 in
theorem show_at (err : Int) (zs : List Int) (ao : Option Addr) (cap : Nat) (w : World) (hR : Rep err zs) (h : Rd w (.slice ao zs.length cap) (zs.map iv)) (htab : TabW w) :
    Calls Tryd.prog 6 #[RpV err (.slice ao zs.length cap)] w fun e w' => e = .returned (.string ⟨(showL err zs).toArray⟩) ∧ Below w.heap.size w w' := by
  have kc := fun (w : World) (C : Array Value) (n c : Nat) => Lib.run_convert_bytes_const (P := Tryd.prog) w 33 5 C n c Tryd.underlying33 Tryd.underlying5
  obtain ⟨-, hcap, CC⟩ := rd_iv h
  have HC : Hid (∀ i, i < zs.length → ∃ g o, ao = some ⟨g, o, none⟩ ∧ g < w.heap.size ∧ w.cell? ⟨g, o + i, none⟩ = some (.int .i64 (zs.getD i 0))) := CC
  have HR : Hid (Rep err zs) := hR
  have HT : Hid (TabW w) := htab
  have HE : Hid (showL err (zs.take 0) = headL err) := by show _ = _; simp [showL, numsL]
  have HF : Hid (showL err zs = showL err (zs.take zs.length)) := by show _ = _; rw [List.take_of_length_le (Nat.le_refl _)]
  have HN : Hid (∀ k, k < zs.length → showL err (zs.take (k + 1)) = showL err (zs.take k) ++ [32] ++ itoa (zs.getD k 0)) := fun k hk => show_next err zs k hk
  have hlen := hR.len
  rw [HF.out]
  clear h htab CC hR HF
  generalize zs.length = L at *
  have k1 := kc (w.alloc (.cells #[.int .i64 err, .slice ao L cap] 25)) #[.int .u8 111, .int .u8 107] 2 2
  have b1 := below_alloc w (.cells #[.int .i64 err, .slice ao L cap] 25)
  have b2 := below_alloc (w.alloc (.cells #[.int .i64 err, .slice ao L cap] 25)) (.cells #[.int .u8 111, .int .u8 107] 5 (2, 3))
  have B2 := below_trans b1 b2
  have c0 : ∀ j u, (#[.int .i64 err, .slice ao L cap] : Array Value)[j]? = some u → ((w.alloc (.cells #[.int .i64 err, .slice ao L cap] 25)).alloc (.cells #[.int .u8 111, .int .u8 107] 5 (2, 3))).cell? ⟨w.heap.size, j, none⟩ = some u := fun j u hj => (b2.cell (p := ⟨w.heap.size, j, none⟩) (by simp)).trans (by rw [World.cell?_alloc_mark]; exact hj)
  by_cases herr : err = 0
  · have eh : headL err = [111, 107] := by unfold headL; rw [if_pos herr]
    have T0 : Hid (TxR w.heap.size ((w.alloc (.cells #[.int .i64 err, .slice ao L cap] 25)).alloc (.cells #[.int .u8 111, .int .u8 107] 5 (2, 3))) (.slice (some ⟨w.heap.size + 1, 0, none⟩) 2 2) (showL err (zs.take 0))) := by
      rw [HE.out, eh]
      refine .inr ⟨by decide, w.heap.size + 1, rfl, ?_⟩
      have := cell_lit (w.alloc (.cells #[.int .i64 err, .slice ao L cap] 25)) [111, 107] (2, 3)
      rw [World.size_alloc] at this
      exact this
    have B0 := B2
    have d0 : (err != 0) = false := by rw [herr]; rfl
    have q0 := c0 0 _ rfl
    have q1 := c0 1 _ rfl
    rw [World.size_alloc] at k1
    have k1' : Sem.run Tryd.prog (convert 33 33 (.slice (some ⟨w.heap.size + 1, 0, none⟩) 2 2)) ((w.alloc (.cells #[.int .i64 err, .slice ao L cap] 25)).alloc (.cells #[.int .u8 111, .int .u8 107] 5)) = .ok (.slice (some ⟨w.heap.size + 1, 0, none⟩) 2 2) ((w.alloc (.cells #[.int .i64 err, .slice ao L cap] 25)).alloc (.cells #[.int .u8 111, .int .u8 107] 5 (2, 3))) := k1
    clear k1 c0 b1 b2 B2 eh HE herr kc
    generalize (w.alloc (.cells #[.int .i64 err, .slice ao L cap] 25)).alloc (.cells #[.int .u8 111, .int .u8 107] 5 (2, 3)) = W at *
    go_enter Tryd.func6, Tryd.ntmps6
    go_wp2_with fail
    go_loopw [3, 19] (fun vt vk wr => ∃ k : Nat, vk = .int .i64 (k : Int) ∧ k ≤ L ∧ Hid (TxR w.heap.size wr vt (showL err (zs.take k))) ∧ Below w.heap.size w wr) (fun _ vk _ => L - (RowKit.intOf vk).toNat)
    case atStart => exact ⟨0, rfl, by omega, T0, B0⟩
    case round =>
      clear T0 B0
      obtain ⟨k, rfl, hk, T, B⟩ := hrel
      have hkl := HR.out.lenk k
      by_cases hlt : (k : Int) < (L : Int)
      · obtain ⟨g, o, ea, glt, cc⟩ := HC.out k (by omega)
        have cc2 : wr.cell? ⟨g, o + k, none⟩ = some (.int .i64 (zs.getD k 0)) := (B.cell (p := ⟨g, o + k, none⟩) glt).trans cc
        have hz := HR.out.at k
        have hsz := B.size
        have NX : Hid (showL err (zs.take (k + 1)) = showL err (zs.take k) ++ [32] ++ itoa (zs.getD k 0)) := HN.out k (by omega)
        subst ea
        have AP : Hid (∀ v' w', RowV 5 w.heap.size w' v' (byteCells (showL err (zs.take k) ++ [32])) → Below w.heap.size w w' → Calls Tryd.prog 10 #[v', .int .i64 (zs.getD k 0), .int .i64 10] w' fun e w'' => ∃ v'', e = .returned v'' ∧ RowV 5 w.heap.size w'' v'' (byteCells (showL err (zs.take k) ++ [32] ++ itoa (zs.getD k 0))) ∧ Below w.heap.size w w'') := fun v' w' r b => appInt_tx _ hz.1 hz.2 w HT.out v' _ w' b (by simp; omega) r
        have hl2 : (showL err (zs.take k)).length + ([32] : List UInt8).length ≤ 1000000000 := by simp; omega
        have own := T.out
        clear cc glt HC HN T
        generalize zs.getD k 0 = Z at *
        generalize showL err (zs.take k) = S at *
        go_wp2_with (at_builtin; refine wpList_txS rfl _ _ rfl w.heap.size _ S [32] rfl own rfl hsz (by decide) hl2 ?_; intro v' w1 r1 b1)
        refine (AP.out v' w1 r1 (B.trans b1)).mono ?_
        rintro e w2 ⟨v2, rfl, r2, b2⟩
        have T2 : Hid (TxR w.heap.size w2 v2 (showL err (zs.take (k + 1)))) := by rw [NX.out]; exact .inl r2
        clear r1 r2 own AP
        go_wp2_with fail
        go_roundw
        case rel => exact ⟨k + 1, by go_num, by omega, T2, b2⟩
        case measure => simp [RowKit.intOf]; omega
      · obtain rfl : k = L := by omega
        have cv := T.out.conv hkl.2
        clear T HC HN
        go_wp2_with fail
        go_ret
        exact ⟨rfl, B⟩
  · have eh : headL err = [101, 114, 114, 111, 114, 32] ++ itoa err := by unfold headL; rw [if_neg herr]
    have d0 : (err != 0) = true := bne_iff_ne.2 herr
    have q0 := c0 0 _ rfl
    have q1 := c0 1 _ rfl
    rw [World.size_alloc] at k1
    have k1' : Sem.run Tryd.prog (convert 33 33 (.slice (some ⟨w.heap.size + 1, 0, none⟩) 2 2)) ((w.alloc (.cells #[.int .i64 err, .slice ao L cap] 25)).alloc (.cells #[.int .u8 111, .int .u8 107] 5)) = .ok (.slice (some ⟨w.heap.size + 1, 0, none⟩) 2 2) ((w.alloc (.cells #[.int .i64 err, .slice ao L cap] 25)).alloc (.cells #[.int .u8 111, .int .u8 107] 5 (2, 3))) := k1
    have hbl : w.heap.size < ((w.alloc (.cells #[.int .i64 err, .slice ao L cap] 25)).alloc (.cells #[.int .u8 111, .int .u8 107] 5 (2, 3))).heap.size := by simp only [World.size_alloc]; omega
    clear k1 c0 b1 b2
    generalize (w.alloc (.cells #[.int .i64 err, .slice ao L cap] 25)).alloc (.cells #[.int .u8 111, .int .u8 107] 5 (2, 3)) = W at *
    have b3 := below_alloc W (.cells #[.int .u8 101, .int .u8 114, .int .u8 114, .int .u8 111, .int .u8 114, .int .u8 32] 5 (6, 7))
    have B3 := below_trans B2 b3
    have AE : Hid (Calls Tryd.prog 10 #[.slice (some ⟨W.heap.size, 0, none⟩) 6 6, .int .i64 err, .int .i64 10] (W.alloc (.cells #[.int .u8 101, .int .u8 114, .int .u8 114, .int .u8 111, .int .u8 114, .int .u8 32] 5 (6, 7))) (NewU (W.alloc (.cells #[.int .u8 101, .int .u8 114, .int .u8 114, .int .u8 111, .int .u8 114, .int .u8 32] 5 (6, 7))) (byteCells [101, 114, 114, 111, 114, 32] ++ byteCells (itoa err)))) := appInt_full err HR.out.e0 HR.out.e1 W.heap.size 6 (byteCells [101, 114, 114, 111, 114, 32]) _ (by decide) rfl (cell_lit W [101, 114, 114, 111, 114, 32] (6, 7)) (tab_below HT.out B3)
    have q2 := (b3.cell (p := ⟨w.heap.size, 0, none⟩) hbl).trans q0
    go_enter Tryd.func6, Tryd.ntmps6
    go_wp2_with fail
    refine AE.out.mono ?_
    rintro e w4 ⟨v4, rfl, o4, b4⟩
    have B0 := below_trans B3 b4
    have q3 := ((below_trans b3 b4).cell (p := ⟨w.heap.size, 1, none⟩) hbl).trans q1
    have T0 : Hid (TxR w.heap.size w4 v4 (showL err (zs.take 0))) := by
      rw [HE.out, eh]
      have e2 : byteCells ([101, 114, 114, 111, 114, 32] ++ itoa err) = byteCells [101, 114, 114, 111, 114, 32] ++ byteCells (itoa err) := by simp [byteCells]
      refine .inl (RowV.mono (base := (W.alloc (.cells #[.int .u8 101, .int .u8 114, .int .u8 114, .int .u8 111, .int .u8 114, .int .u8 32] 5 (6, 7))).heap.size) ?_ B3.size)
      rw [RowV, e2]
      exact o4
    clear AE o4 b4 b3 B3 B2 q0 q1 q2 HE eh herr kc k1'
    go_wp2_with fail
    go_loopw [3, 19] (fun vt vk wr => ∃ k : Nat, vk = .int .i64 (k : Int) ∧ k ≤ L ∧ Hid (TxR w.heap.size wr vt (showL err (zs.take k))) ∧ Below w.heap.size w wr) (fun _ vk _ => L - (RowKit.intOf vk).toNat)
    case atStart => exact ⟨0, rfl, by omega, T0, B0⟩
    case round =>
      clear T0 B0
      obtain ⟨k, rfl, hk, T, B⟩ := hrel
      have hkl := HR.out.lenk k
      by_cases hlt : (k : Int) < (L : Int)
      · obtain ⟨g, o, ea, glt, cc⟩ := HC.out k (by omega)
        have cc2 : wr.cell? ⟨g, o + k, none⟩ = some (.int .i64 (zs.getD k 0)) := (B.cell (p := ⟨g, o + k, none⟩) glt).trans cc
        have hz := HR.out.at k
        have hsz := B.size
        have NX : Hid (showL err (zs.take (k + 1)) = showL err (zs.take k) ++ [32] ++ itoa (zs.getD k 0)) := HN.out k (by omega)
        subst ea
        have AP : Hid (∀ v' w', RowV 5 w.heap.size w' v' (byteCells (showL err (zs.take k) ++ [32])) → Below w.heap.size w w' → Calls Tryd.prog 10 #[v', .int .i64 (zs.getD k 0), .int .i64 10] w' fun e w'' => ∃ v'', e = .returned v'' ∧ RowV 5 w.heap.size w'' v'' (byteCells (showL err (zs.take k) ++ [32] ++ itoa (zs.getD k 0))) ∧ Below w.heap.size w w'') := fun v' w' r b => appInt_tx _ hz.1 hz.2 w HT.out v' _ w' b (by simp; omega) r
        have hl2 : (showL err (zs.take k)).length + ([32] : List UInt8).length ≤ 1000000000 := by simp; omega
        have own := T.out
        clear cc glt HC HN T
        generalize zs.getD k 0 = Z at *
        generalize showL err (zs.take k) = S at *
        go_wp2_with (at_builtin; refine wpList_txS rfl _ _ rfl w.heap.size _ S [32] rfl own rfl hsz (by decide) hl2 ?_; intro v' w1 r1 b1)
        refine (AP.out v' w1 r1 (B.trans b1)).mono ?_
        rintro e w2 ⟨v2, rfl, r2, b2⟩
        have T2 : Hid (TxR w.heap.size w2 v2 (showL err (zs.take (k + 1)))) := by rw [NX.out]; exact .inl r2
        clear r1 r2 own AP
        go_wp2_with fail
        go_roundw
        case rel => exact ⟨k + 1, by go_num, by omega, T2, b2⟩
        case measure => simp [RowKit.intOf]; omega
      · obtain rfl : k = L := by omega
        have cv := T.out.conv hkl.2
        clear T HC HN
        go_wp2_with fail
        go_ret
        exact ⟨rfl, B⟩
end Go.Proofs.YtcbdbjejodpnaaaDoor
