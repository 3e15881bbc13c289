/-
  Ours: entries as they read; the first that is bad.
-/
import Derived.Test.YtgdmkcbbomfmdaaGreatDoorLedOk
namespace Go.Proofs.YtgdmkcbbomfmdaaGreatDoor
open Go.RowKit LedM

namespace LedM
def eN (es : List Ent) (i : Nat) : Ent := es.getD i ⟨0, 0, 0⟩
theorem eN_at {es : List Ent} {i : Nat} (h : i < es.length) : eN es i = es[i] := by simp [eN, List.getD_eq_getElem?_getD, List.getElem?_eq_getElem h]
theorem drop_eN {es : List Ent} {i : Nat} (h : i < es.length) : es.drop i = eN es i :: es.drop (i + 1) := by
  rw [eN_at h]; exact List.drop_eq_getElem_cons h
theorem take_eN {es : List Ent} {i : Nat} (h : i < es.length) : es.take (i + 1) = es.take i ++ [eN es i] := by
  rw [eN_at h, List.take_add_one, List.getElem?_eq_getElem h]; rfl
end LedM
/-- A load by the row behind a guard that wants it. -/
theorem step_loadG {P : Program} {ops : Array Oper} {rest : List Oper} {op : Oper} {a : Act} {w : World} {Q : Exit → Act → World → Prop} (hw : Region.wanted op (yielded ops a.tmps) = true) (ty : TypeId) (x : Operand) (ho : op.op = .load ty x)
    (G o : Nat) (hx : a.eval x = .pointer (some ⟨G, o, none⟩)) (cs : List Value) (d : TypeDesc) (hc : w.rangeAt G o cs)
    (hu : P.underlying ty = some d) (hd : d.isRow = true) (hi : (P.info? ty).map (·.size) = some cs.length)
    (h : wpList P ops Q rest (a.put op.dst (.agg cs.toArray)) w) : wpList P ops Q (op :: rest) a w :=
  BigFrame.wpList_want hw fun _ hK => wp_load_mid ty x ho G o hx cs d hc hu hd hi (hK _ _ h)
/-- The slice value v reads as the entries es. -/
def RdE (w : World) (v : Value) (es : List Ent) : Prop :=
  ∃ ao cap, v = .slice ao es.length cap ∧ es.length ≤ cap ∧ (ao = none → cap = 0) ∧ ∀ i, i < es.length → ∃ g o, ao = some ⟨g, o, none⟩ ∧ g < w.heap.size ∧ w.rangeAt g (o + i * 3) (entL (eN es i))
theorem range_later {w w' : World} {g o : Nat} {cs : List Value} (h : w.rangeAt g o cs) (hg : g < w.heap.size) (hb : Below w.heap.size w w') : w'.rangeAt g o cs := fun j v hv => (hb.cell (p := ⟨g, o + j, none⟩) hg).trans (h j v hv)
theorem RdE.later {w w' : World} {v : Value} {es : List Ent} (h : RdE w v es) (hb : Below w.heap.size w w') : RdE w' v es := by
  obtain ⟨ao, cap, rfl, h1, h2, h3⟩ := h
  refine ⟨ao, cap, rfl, h1, h2, fun i hi => ?_⟩
  obtain ⟨g, o, e, lt, r⟩ := h3 i hi
  exact ⟨g, o, e, Nat.lt_of_lt_of_le lt hb.size, range_later r lt hb⟩
theorem infoE (e : Ent) : (Tryz.prog.info? 79).map (·.size) = some (entL e).length := by show _ = some 3; kernel_rfl
theorem oneE (e : Ent) : ∀ v ∈ entL e, v.oneCell' = true := fun v hv => by
  simp [entL] at hv
  rcases hv with rfl | rfl | rfl <;> rfl

set_option maxHeartbeats 1000000 in
theorem fault_at (es : List Ent) (v : Value) (w : World) (hl : es.length ≤ 1000000000) (h : RdE w v es) : Calls Tryz.prog 84 #[v] w fun e w' => e = .returned (.int .i64 (faultE es)) ∧ Below w.heap.size w w' := by
  have KN : Hid (∀ (a : Int) (w : World), Calls Tryz.prog 113 #[.int .i64 a] w fun e w' => e = .returned (.bool (isA a)) ∧ w' = w) := fun a w => known_at a w
  have RD : Hid (∀ w', Below w.heap.size w w' → RdE w' v es) := fun w' hb => h.later hb
  obtain ⟨ao, cap, rfl, hcap, hno, _⟩ := h
  have CE : Hid (∀ w', Below w.heap.size w w' → ∀ i, i < es.length → ∃ g o, ao = some ⟨g, o, none⟩ ∧ w'.rangeAt g (o + i * 3) (entL (eN es i))) := fun w' hb i hi => by
    obtain ⟨ao', cap', e, _, _, H⟩ := RD.out w' hb
    injection e with e1 e2 e3
    subst e1
    obtain ⟨g, o, e, _, r⟩ := H i hi
    exact ⟨g, o, e, r⟩
  obtain ⟨L, hL⟩ : ∃ L, es.length = L := ⟨_, rfl⟩
  have HL : Hid (es.length = L) := hL
  have DR : Hid (∀ i, i < L → faultE (es.drop i) = if entE (eN es i) = 0 then faultE (es.drop (i + 1)) else entE (eN es i)) := fun i hi => by rw [drop_eN (by omega)]; rfl
  have DE : Hid (faultE (es.drop L) = 0) := by show _ = _; rw [List.drop_eq_nil_of_le (by omega)]; rfl
  rw [hL] at hcap hl CE ⊢
  obtain ⟨R, HR⟩ : ∃ R, Hid (faultE es = R) := ⟨_, rfl⟩
  rw [HR.out]
  clear RD hL
  go_enter Tryz.func84, Tryz.ntmps84
  go_wp2_with fail
  go_loopw [4, 7] (fun _ vk wr => ∃ k : Nat, vk = .int .i64 (k : Int) ∧ k ≤ L ∧ Hid (faultE (es.drop k) = R) ∧ Below w.heap.size w wr) (fun _ vk _ => L - (intOf vk).toNat)
  case atStart => exact ⟨0, rfl, by omega, HR.out, Below.refl _ _⟩
  case round =>
    obtain ⟨k, rfl, hk, FK, bb⟩ := hrel
    have BB : Hid (Below w.heap.size w wr) := bb
    by_cases hlt : (k : Int) < (L : Int)
    · obtain ⟨g, o, rfl, rg⟩ := CE.out wr bb k (by omega)
      have RG : Hid (wr.rangeAt g (o + k * 3) (entL (eN es k))) := rg
      have NB : Hid (Blk wr.heap.size 79 [.int .i64 0, .int .i64 0, .int .i64 0] (wr.alloc (.cells #[.int .i64 0, .int .i64 0, .int .i64 0] 79))) := Blk.new 79 [.int .i64 0, .int .i64 0, .int .i64 0] wr
      have BA : Hid (Below w.heap.size w (wr.alloc (.cells #[.int .i64 0, .int .i64 0, .int .i64 0] 79)) ∧ w.heap.size ≤ wr.heap.size) := ⟨bb.alloc bb.size _, bb.size⟩
      have fe := FK.out
      rw [DR.out k (by omega)] at fe
      have FE : Hid ((if entE (eN es k) = 0 then faultE (es.drop (k + 1)) else entE (eN es k)) = R) := fe
      have hr : (k : Int) < (L : Int) := hlt
      clear rg bb fe FK BB CE DR DE HR
      generalize eN es k = x at *
      obtain ⟨xd, xc, xa⟩ := x
      have EE : Hid (entE ⟨xd, xc, xa⟩ = if !isA xd || !isA xc || xd == xc then 80 else if xa < 1 then 4 else 0) := rfl
      have RA : Hid ((wr.alloc (.cells #[.int .i64 0, .int .i64 0, .int .i64 0] 79)).rangeAt g (o + k * 3) (entL ⟨xd, xc, xa⟩)) := World.rangeAt_alloc RG.out _
      go_wp2_with (first
        | (refine step_load rfl 79 _ rfl g (o + k * 3) rfl (entL ⟨xd, xc, xa⟩) _ RG.out Tryz.underlying79 rfl (infoE _) ?_)
        | (refine step_store rfl 79 _ _ rfl wr.heap.size 0 79 [.int .i64 0, .int .i64 0, .int .i64 0] (entL ⟨xd, xc, xa⟩) rfl rfl NB.out (Nat.le_refl _) (infoE _) (oneE _) ?_; intro w2 nb2 g2; have B2 : Hid (Below w.heap.size w w2) := below_row BA.out.1 g2 BA.out.2; have n2 : Blk wr.heap.size 79 (entL ⟨xd, xc, xa⟩) w2 := nb2; have c0 := n2.cell 0 _ rfl; have c1 := n2.cell 1 _ rfl; have c2 := n2.cell 2 _ rfl; clear nb2 n2 g2 NB BA RA RG))
      refine (KN.out _ _).mono ?_
      rintro e w3 ⟨rfl, rfl⟩
      generalize isA xd = ad at *
      cases ad
      · obtain rfl : R = 80 := by have := FE.out; rw [EE.out] at this; simpa using this.symm
        go_wp2_with fail
        go_ret
        exact ⟨rfl, B2.out⟩
      · go_wp2_with fail
        refine (KN.out _ _).mono ?_
        rintro e w3 ⟨rfl, rfl⟩
        generalize isA xc = ac at *
        cases ac
        · obtain rfl : R = 80 := by have := FE.out; rw [EE.out] at this; simpa using this.symm
          go_wp2_with fail
          go_ret
          exact ⟨rfl, B2.out⟩
        · obtain ⟨q, hq⟩ : ∃ q, (xd == xc) = q := ⟨_, rfl⟩
          cases q
          · by_cases ha : xa < 1
            · obtain rfl : R = 4 := by have := FE.out; rw [EE.out, hq] at this; simp [ha] at this; exact this.symm
              have d1 : decide (xa < 1) = true := decide_eq_true ha
              go_wp2_with fail
              go_ret
              exact ⟨rfl, B2.out⟩
            · have FN : Hid (faultE (es.drop (k + 1)) = R) := by show _ = _; have := FE.out; rw [EE.out, hq] at this; simpa [ha] using this
              have d1 : decide (xa < 1) = false := decide_eq_false ha
              clear ha
              go_wp2_with fail
              go_roundw
              case rel => exact ⟨k + 1, by go_num, by omega, FN.out, B2.out⟩
              case measure => simp [intOf]; omega
          · obtain rfl : R = 80 := by have := FE.out; rw [EE.out, hq] at this; simpa using this.symm
            go_wp2_with fail
            go_ret
            exact ⟨rfl, B2.out⟩
    · obtain rfl : k = L := by omega
      obtain rfl : R = 0 := FK.out.symm.trans DE.out
      go_wp2_with fail
      go_ret
      exact ⟨rfl, BB.out⟩
end Go.Proofs.YtgdmkcbbomfmdaaGreatDoor
