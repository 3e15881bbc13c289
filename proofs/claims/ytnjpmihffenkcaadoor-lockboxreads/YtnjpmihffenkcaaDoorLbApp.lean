/-
  Ours: lockbox.appendLine.
-/
import Derived.Test.YtnjpmihffenkcaaDoorLbHas
namespace Go.Proofs.YtnjpmihffenkcaaDoor
open Go.RowKit LbM LbF
theorem TG.blw {base : Nat} {a b : World} (h : TG base a b) (hb : base ≤ a.heap.size) : Below base a b := ⟨h.os, h.tape, h.output, h.size, fun k hk => h.block k (by omega) (.inl hk)⟩
/-- What stands while a file is told: the tables lie ahead of 'base'. -/
structure Ctx (base : Nat) (w0 w : World) : Prop where
  below : Below base w0 w
  le : w0.heap.size ≤ base
  lb : base ≤ w.heap.size
  tp0 : TabP w0
  fw0 : FormW w0
theorem Ctx.bel {base : Nat} {w0 w : World} (h : Ctx base w0 w) : Below w0.heap.size w0 w := h.below.mono h.le
theorem Ctx.tp {base : Nat} {w0 w : World} (h : Ctx base w0 w) : TabP w := h.tp0.below h.bel
theorem Ctx.fw {base : Nat} {w0 w : World} (h : Ctx base w0 w) : FormW w := h.fw0.later h.bel
theorem Ctx.step {base : Nat} {w0 w w' : World} (h : Ctx base w0 w) (t : TG base w w') : Ctx base w0 w' := ⟨h.below.trans (t.blw h.lb), h.le, Nat.le_trans h.lb t.size, h.tp0, h.fw0⟩
theorem ctx_of {w : World} (tp : TabP w) (fw : FormW w) : Ctx w.heap.size w w := ⟨Below.refl _ _, Nat.le_refl _, Nat.le_refl _, tp, fw⟩
theorem RowV.val {e : TypeId} {base : Nat} {w : World} {v : Value} {vs : List Value} (h : RowV e base w v vs) : ∃ a n c, v = .slice a n c := by
  obtain ⟨a, c, e, _⟩ := (RowV.rd h).len
  exact ⟨a, _, c, e⟩
/-- Numbers as cells. -/
abbrev nvL (ns : List Nat) : List Value := ns.map fun n : Nat => iv (n : Int)
theorem flds_all (ws ns : List Nat) (h : ws.length = ns.length) : flds (ws.take ws.length) (ns.take ws.length) = flds ws ns := by rw [List.take_length, h, List.take_length]
theorem wid_len {k : Nat} : (wid k).length ≤ 4 := by unfold wid; split <;> (try split) <;> decide
set_option maxRecDepth 20000 in
set_option maxHeartbeats 4000000 in
theorem appendLine_at (k : Nat) (hk : k < 3) (ns : List Nat) (hf : fits (wid k) ns) (N base : Nat) (bs : List Nat) (v : Value) (w0 w : World) (hc : Ctx base w0 w) (hl : bs.length ≤ 999990000) (h : RowB 5 base w v bs)
    (hN : Blk N 2 (nvL ns) w) (n : Nat) (hn : ns.length = n) :
    Calls Tryd.prog 35 #[v, .int .i64 (k : Int), .slice (some ⟨N, 0, none⟩) n n] w (TelAns base w (bs ++ lin k ns)) := by
  obtain ⟨i0, hi, hz0, hz1, hz2⟩ := info_parts infoB
  obtain ⟨a0, n0, c0, rfl⟩ := RowV.val h
  have h0 : Hid (RowB 5 base w (.slice a0 n0 c0) bs ∧ Ctx base w0 w ∧ Blk N 2 (nvL ns) w) := ⟨h, hc, hN⟩
  have AD : Hid (∀ (i W x : Nat) (v : Value) (w : World) (b2 : List Nat), (wid k)[i]? = some (W + 1) → ns[i]? = some x → Ctx base w0 w → b2.length ≤ 1000000000 → RowB 5 base w v b2 → Calls Tryd.prog 56 #[v, .int .i64 (x : Int), .int .i64 ((W + 1 : Nat) : Int)] w (TelAns base w (b2 ++ dgT x (W + 1)))) := fun i W x v w b2 h1 h2 hc h3 h4 =>
    appendDigits_at x W ((fits_at hf).2 i _ x h1 h2) (by have := wid_b h1; omega) base b2 v w hc.tp h3 h4 hc.lb
  have hlen := (fits_at hf).1
  have c1 := hc.fw.wd k hk
  obtain ⟨g, o, cp, c2, hcp, lt, CW⟩ := hc.fw.sl k hk
  have HT : Hid (∀ w', Ctx base w0 w' → w'.cell? ⟨1, k * 2 + 1, none⟩ = some (.slice (some ⟨g, o, none⟩) (wid k).length cp) ∧ ∀ (i x : Nat), (wid k)[i]? = some x → w'.cell? ⟨g, o + i, none⟩ = some (.int .i64 (x : Int))) := by
    obtain ⟨g1, o1, cp1, d2, dcp, lt1, DW⟩ := hc.fw0.sl k hk
    have e := (hc.below.cell (p := ⟨1, k * 2 + 1, none⟩) (Nat.lt_of_lt_of_le hc.fw0.lt hc.le)).trans d2
    rw [c2] at e
    injection e with e
    injection e with e1 _ e3
    injection e1 with e1
    injection e1 with e4 e5 _
    subst e3 e4 e5
    exact fun w' hw => ⟨(hw.below.cell (p := ⟨1, k * 2 + 1, none⟩) (Nat.lt_of_lt_of_le hw.fw0.lt hw.le)).trans d2, fun i x hi => (hw.below.cell (p := ⟨g, o + i, none⟩) (Nat.lt_of_lt_of_le lt1 hw.le)).trans (DW i x hi)⟩
  have GI : Hid (∀ i, i < (wid k).length → ∃ W x, (wid k)[i]? = some (W + 1) ∧ ns[i]? = some x ∧ flds ((wid k).take (i + 1)) (ns.take (i + 1)) = flds ((wid k).take i) (ns.take i) ++ dgT x (W + 1) ∧ (flds ((wid k).take i) (ns.take i)).length ≤ 16 * i) := by
    have hB : ∀ j, j ≤ (wid k).length → (flds ((wid k).take j) (ns.take j)).length ≤ 16 * j := by
      intro j
      induction j with
      | zero => intro _; simp [flds]
      | succ j ih =>
        intro hj
        have h1 : (wid k)[j]? = some ((wid k)[j]'(by omega)) := List.getElem?_eq_getElem (by omega)
        have h2 : ns[j]? = some (ns[j]'(by omega)) := List.getElem?_eq_getElem (by omega)
        rw [flds_snoc h1 h2, List.length_append, dgT_len]
        have := ih (by omega)
        have := wid_b h1
        omega
    intro i hi
    have h1 : (wid k)[i]? = some ((wid k)[i]'hi) := List.getElem?_eq_getElem hi
    have h2 : ns[i]? = some (ns[i]'(by omega)) := List.getElem?_eq_getElem (by omega)
    have hb := wid_b h1
    obtain ⟨W, hW⟩ : ∃ W, (wid k)[i]'hi = W + 1 := ⟨(wid k)[i]'hi - 1, by omega⟩
    rw [hW] at h1
    exact ⟨W, _, h1, h2, flds_snoc h1 h2, hB i (by omega)⟩
  have FA : Hid (flds ((wid k).take (wid k).length) (ns.take (wid k).length) = flds (wid k) ns) := flds_all _ _ hlen
  have hwl := wid_len (k := k)
  have FL : Hid ((flds (wid k) ns).length ≤ 64) := by
    show _ ≤ _
    rw [flds_len _ _ hf]
    unfold wid
    split <;> (try split) <;> decide
  have NI : Hid (∀ (i x : Nat), ns[i]? = some x → (nvL ns)[i]? = some (.int .i64 (x : Int))) := fun i x hx => by rw [List.getElem?_map, hx]; rfl
  have LN : Hid (lin k ns = [ltr k] ++ (flds (wid k) ns ++ [10])) := rfl
  have hk2 : ltr k < 256 := by unfold ltr; split <;> (try split) <;> decide
  have LT : Hid ([UInt8.ofNat (ltr k)].map (fun b : UInt8 => b.toNat) = [ltr k]) := by show _ = _; simp; omega
  generalize lin k ns = LI at *
  generalize ltr k = lt0 at *
  obtain ⟨L, hL⟩ : ∃ L, (wid k).length = L := ⟨_, rfl⟩
  rw [hL] at c2 hcp HT GI FA hlen hwl
  have LB : Hid ((bs.map bv).length = bs.length) := List.length_map _
  clear h hc hN hf hk2 hL CW lt
  generalize wid k = WS at *
  rw [← hlen] at hn
  subst hn
  have l1 : (bs.map bv).length + ({ data := [UInt8.ofNat lt0].toArray } : ByteArray).size ≤ maxLen := by rw [LB.out]; show bs.length + 1 ≤ _; unfold maxLen; omega
  have l2 : (bs.map bv).length + ({ data := [UInt8.ofNat lt0].toArray } : ByteArray).size ≤ 140737488355328 := by rw [LB.out]; show bs.length + 1 ≤ _; omega
  have own0 := h0.out.1
  have hsz0 := h0.out.2.1.lb
  go_enter Tryd.func35, Tryd.ntmps35
  go_upto_region 2 with (at_builtin; refine Lib.wpList_append_own_string _ rfl (.tmp 9) (.tmp 13) 26 9 rfl base 5 i0 underB underT hi hz0 hz1 hz2 _ _ _ rfl own0 ⟨[UInt8.ofNat lt0].toArray⟩ rfl l1 l2 hsz0 ?_; intro v3 w3 r3 g3 _)
  have t3 : TG base w w3 := TG.grown own0 g3
  have R3 : Hid (RowB 5 base w3 v3 (bs ++ [lt0]) ∧ TG base w w3 ∧ Ctx base w0 w3 ∧ Blk N 2 (nvL ns) w3) := ⟨by rw [← LT.out]; exact rowB_cat r3 (by rw [LB.out]; rfl), t3, h0.out.2.1.step t3, h0.out.2.2.tg t3 (by decide)⟩
  obtain ⟨a3, n3, cc3, rfl⟩ := RowV.val R3.out.1
  have c3 := (HT.out w3 R3.out.2.2.1).1
  clear r3 g3 t3 own0 hsz0 h0 l1 l2 c1 c2
  go_wp2_with fail
  go_loopw [0, 20] (fun vf vk wr => ∃ (i : Nat) (a : Option Addr) (n c : Nat), vk = .int .i64 (i : Int) ∧ i ≤ L ∧ vf = .slice a n c ∧ Hid (RowB 5 base wr (.slice a n c) (bs ++ [lt0] ++ flds (WS.take i) (ns.take i)) ∧ TG base w wr ∧ Ctx base w0 wr ∧ Blk N 2 (nvL ns) wr)) (fun _ vk _ => L - (intOf vk).toNat)
  case atStart => exact ⟨0, a3, n3, cc3, rfl, by omega, rfl, by simpa [flds] using R3.out.1, R3.out.2⟩
  case round =>
    obtain ⟨i, a, n, c, rfl, hik, rfl, HR⟩ := hrel
    clear R3 c3
    by_cases hlt : (i : Int) < (L : Int)
    · obtain ⟨W, x, h1, h2, FS, FL⟩ := GI.out i (by omega)
      have cw := (HT.out wr HR.out.2.2.1).2 i _ h1
      have cn := HR.out.2.2.2.cell i _ (NI.out i x h2)
      have FS' : Hid (flds (WS.take (i + 1)) (ns.take (i + 1)) = flds (WS.take i) (ns.take i) ++ dgT x (W + 1)) := FS
      have AC := AD.out i W x (.slice a n c) wr _ h1 h2 HR.out.2.2.1 (by rw [List.length_append, List.length_append, List.length_singleton]; omega) HR.out.1
      clear h1 h2 FS FL
      go_wp2_with fail
      refine AC.mono ?_
      rintro e w4 ⟨a4, n4, c4, rfl, r4, t4⟩
      have R4 : Hid (RowB 5 base w4 (.slice a4 n4 c4) (bs ++ [lt0] ++ flds (WS.take (i + 1)) (ns.take (i + 1))) ∧ TG base w w4 ∧ Ctx base w0 w4 ∧ Blk N 2 (nvL ns) w4) := ⟨by rw [FS'.out, ← List.append_assoc]; exact r4, HR.out.2.1.trans t4, HR.out.2.2.1.step t4, HR.out.2.2.2.tg t4 (by decide)⟩
      clear r4 t4 AC HR cw cn
      go_wp2_with fail
      go_roundw
      case rel => exact ⟨i + 1, a4, _, c4, by go_num, by omega, rfl, R4⟩
      case measure => simp [intOf]; omega
    · obtain rfl : i = L := by omega
      have own1 : RowB 5 base wr (.slice a n c) (bs ++ [lt0] ++ flds WS ns) := by have := HR.out.1; rwa [FA.out] at this
      have hsz1 := HR.out.2.2.1.lb
      have hFl := FL.out
      have l1 : ((bs ++ [lt0] ++ flds WS ns).map bv).length + ({ data := #[10] } : ByteArray).size ≤ maxLen := by rw [List.length_map, List.length_append, List.length_append]; show _ + [lt0].length + _ + 1 ≤ _; rw [List.length_singleton]; unfold maxLen; omega
      have l2 : ((bs ++ [lt0] ++ flds WS ns).map bv).length + ({ data := #[10] } : ByteArray).size ≤ 140737488355328 := by rw [List.length_map, List.length_append, List.length_append]; show _ + [lt0].length + _ + 1 ≤ _; rw [List.length_singleton]; omega
      go_wp2_with (at_builtin; refine Lib.wpList_append_own_string _ rfl (.tmp 33) (.const (.string ⟨#[10]⟩)) 26 9 rfl base 5 i0 underB underT hi hz0 hz1 hz2 _ _ _ rfl own1 ⟨[10].toArray⟩ rfl l1 l2 hsz1 ?_; intro v5 w5 r5 g5 _)
      have R5 : Hid (RowB 5 base w5 v5 (bs ++ LI) ∧ TG base w w5) := ⟨by
        rw [LN.out, ← List.append_assoc, ← List.append_assoc]
        exact rowB_cat r5 (by rw [List.length_map]; rfl), HR.out.2.1.trans (TG.grown own1 g5)⟩
      obtain ⟨a5, n5, c5, rfl⟩ := RowV.val R5.out.1
      clear r5 g5 own1 HR l1 l2 hsz1
      go_wp2_with fail
      go_ret
      exact ⟨_, _, _, rfl, R5.out.1, R5.out.2⟩
end Go.Proofs.YtnjpmihffenkcaaDoor
