/-
  Ours, in the frame of the kit's worked card: the row and the card of MoneyExact from its walk.
-/
import Derived.Test.YtfdahdloihgjeacDoorRows
import Derived.Test.YtfdahdloihgjeacDoorTie
import Derived.Test.YtfdahdloihgjeacDoorCards
import Derived.Test.YtfdahdloihgjeacDoorMexB
import Derived.ProofKit
import Derived.LaidMore
import Derived.OpenShut
import Derived.Stop.Joined
import Derived.ChangeOld
import Derived.Below
import Derived.ChangeMaps5
import Derived.Carry
import Derived.SevenTiedAt
import Derived.Deep.Slices
import Derived.Stop.LaidErr
namespace Go.Proofs.YtfdahdloihgjeacDoor.moneyExact
open Go.ChangeMaps Go.ChangeShapes Go.WideShapes Go.ChangeAt Go.RowKit

def lst : List (String × DataW Unit) := [("math/bits.deBruijn32tab", Rows.laid_math_bits_deBruijn32tab), ("math/bits.deBruijn64tab", Rows.laid_math_bits_deBruijn64tab), ("internal/strconv.uint64pow10", Rows.laid_internal_strconv_uint64pow10), ("strconv.ErrRange", Rows.laid_strconv_ErrRange), ("strconv.ErrSyntax", Rows.laid_strconv_ErrSyntax)]
theorem tabP_of {W : World} (h : laidMetH Tryd.prog lst W) : TabW W := by
  unfold lst at h
  rw [Go.MakeChecks.laidMetH_plain _ _ _ (by kernel_rfl)] at h
  exact Lib.tabIs_of_head (zs := Lib.pow10Tab) gPw (by kernel_rfl) Tryd.underlying106 Tryd.underlying63 (by kernel_rfl) (by kernel_rfl) h.tail.tail
theorem own : ownKnob Tryd.prog.godebug = none := by kernel_rfl
theorem bounds {x : Int} (h : (Lit.int .i64 x).wf = true) : -9223372036854775808 ≤ x ∧ x ≤ 9223372036854775807 := by
  simp [Lit.wf, IntKind.min, IntKind.max, IntKind.signed, IntKind.bits] at h
  exact ⟨by omega, by omega⟩
theorem gR : Tryd.prog.globalNamed "strconv.ErrRange" = some 4 := by kernel_rfl
theorem gS : Tryd.prog.globalNamed "strconv.ErrSyntax" = some 3 := by kernel_rfl
theorem star : "*" ++ "errors.errorString" = "*errors.errorString" := by decide
theorem rowE (u : TypeId) (h : Tryd.prog.typeName? 3 u = some "*errors.errorString") : u = 119 :=
  typeName_ptr_named (nm := "errors.errorString") (by rw [star]; kernel_rfl) (by kernel_rfl) (by decide) u (by rw [star]; exact h)
theorem errW_of {W : World} (h : laidMetH Tryd.prog lst W) : ErrW W := by
  unfold lst at h
  rw [Go.MakeChecks.laidMetH_plain _ _ _ (by kernel_rfl)] at h
  obtain ⟨a0, _, h0, _⟩ := laid_sentinel h.tail.tail.tail gR (ti := 80) (by kernel_rfl) Tryd.underlying80 rowE Tryd.underlying119 Tryd.underlying121 rfl rfl Tryd.underlying9 (by kernel_rfl) (by kernel_rfl)
  obtain ⟨a1, _, h1, _⟩ := laid_sentinel h.tail.tail.tail.tail gS (ti := 80) (by kernel_rfl) Tryd.underlying80 rowE Tryd.underlying119 Tryd.underlying121 rfl rfl Tryd.underlying9 (by kernel_rfl) (by kernel_rfl)
  exact ⟨⟨_, _, h1⟩, ⟨_, _, h0⟩⟩
theorem door_met (os : Os) (args : Array Value) : laidMetH Tryd.prog lst ((World.doorLaid Tryd.prog 400 os).forCall (fun _ _ => 0) ⟨#[], args, []⟩).memory :=
  laidMetH_of_parts3 (fuel := 8) (laidMet_of_run' 8 (by kernel_rfl) (by kernel_rfl)) (by kernel_rfl) (by kernel_rfl)

theorem laidOut : laidOutB Tryd.prog = true := by kernel_rfl
theorem add_at (b off i : Nat) : (⟨b, off, none⟩ : Addr).add i = ⟨b, off + i, none⟩ := by unfold Addr.add; split <;> simp_all
theorem list_open {H : Type} {enc : TypeId × Value → H} {W : World} {fuel : Nat} {v : Value} {x : DataW H × List MemPlace} (hf : DataW.trod enc Tryd.prog W 0 (fun _ => true) true fuel 25 [v] = some x) :
    ∃ (s : Option Addr) (len cap : Nat), v = .slice s len cap ∧ LsOk W s len cap := by
  rcases open_ints Tryd.underlying25 Tryd.underlying2 (by kernel_rfl) hf with ⟨hcs, _⟩ | ⟨x, l, c, zs, hcs, _, hl, hm, hz, _, hcell, hwz⟩
  · simp at hcs
    subst hcs
    exact ⟨none, 0, 0, rfl, by omega, .inr ⟨[], rfl, fun i => by simp, .inl ⟨rfl, _, _, rfl⟩⟩⟩
  · simp at hcs
    subst hcs
    simp at hz
    refine ⟨some x, l, c, rfl, by unfold maxLen at hm; omega, ?_⟩
    by_cases h4 : 4096 < l
    · exact .inl h4
    · right
      have ln : (zs.take l).length = l := by rw [List.length_take]; omega
      have gd : ∀ i, i < l → (zs.take l).getD i 0 = zs.getD i 0 := fun i hi => by
        simp only [List.getD_eq_getElem?_getD, List.getElem?_take]; rw [if_pos hi]
      have hx : I64 (zs.take l) := fun i => by
        by_cases hi : i < l
        · rw [gd i hi]
          have hlt : i < zs.length := by omega
          rw [List.getD_eq_getElem?_getD, List.getElem?_eq_getElem hlt]
          exact bounds (hwz _ (List.getElem_mem hlt))
        · rw [List.getD_eq_getElem?_getD, List.getElem?_eq_none (by omega)]; simp
      refine ⟨zs.take l, ln, hx, ?_⟩
      by_cases h0 : l = 0
      · subst h0; exact .inl ⟨by simp, _, _, rfl⟩
      · obtain ⟨b, off, spot⟩ := x
        have hc := hcell 0 (by omega)
        have hspot : spot = none := by simpa [Addr.add] using World.cell?_spot hc
        subst hspot
        have cl : ∀ i, i < l → W.cell? ⟨b, off + i, none⟩ = some (.int .i64 ((zs.take l).getD i 0)) := fun i hi => by
          have := hcell i (by omega)
          rw [add_at] at this
          rw [gd i hi, this]
        exact .inr ⟨by omega, b, off, c, by rw [ln], by omega, World.block_lt_of_cell? W _ (cl 0 (by omega)), fun i hi => cl i (by omega)⟩
set_option maxRecDepth 100000 in
theorem scr_of {H : Type} {enc : TypeId × Value → H} {W : World} {fuel n c : Nat} {s : Option Addr} {x : DataW H × List MemPlace} (hf : DataW.trod enc Tryd.prog W 0 (fun _ => true) true fuel 22 [.slice s n c] = some x) : ScrOk W s n := by
  rcases Go.Deep.open_slice Tryd.underlying22 hf with ⟨hcs, _⟩ | ⟨a, len, cap, m, q, D, Pl, hcs, _, hl, hm, hmm, _, hx⟩
  · simp at hcs
    obtain ⟨rfl, rfl, rfl⟩ := hcs
    exact ⟨by omega, .inl rfl⟩
  · simp at hcs
    obtain ⟨rfl, rfl, rfl⟩ := hcs
    refine ⟨by unfold maxLen at hm; omega, ?_⟩
    by_cases h0 : n = 0
    · exact .inl h0
    right
    have ce : Tryd.prog.cellsOf 27 = 6 := by kernel_rfl
    rw [ce] at hx
    simp only [if_true] at hmm
    obtain ⟨b, off, spot⟩ := a
    have hspot : spot = none := by
      obtain ⟨cs', g1, _⟩ := hx 0 (by omega)
      obtain ⟨_, hlen, hcell⟩ := World.cells?_some g1
      have := hcell 0 (by omega)
      rw [List.getElem?_eq_getElem (by omega)] at this
      simpa [Addr.add] using World.cell?_spot this
    subst hspot
    refine ⟨b, off, rfl, ?_, fun i hi => ?_⟩
    · obtain ⟨cs', g1, _⟩ := hx 0 (by omega)
      obtain ⟨_, hlen, hcell⟩ := World.cells?_some g1
      have h0' := hcell 0 (by omega)
      rw [List.getElem?_eq_getElem (by omega)] at h0'
      have := World.block_lt_of_cell? W _ h0'
      simpa [Addr.add] using this
    obtain ⟨cs', g1, g2⟩ := hx i (by omega)
    obtain ⟨_, hlen, hcell⟩ := World.cells?_some g1
    obtain ⟨ys, kk, hkk, _, _, hyl, hfl⟩ := DataW.trod_struct Tryd.underlying27 g2
    have cI : Tryd.prog.cellsOf 3 = 1 := by kernel_rfl
    have cJ : Tryd.prog.cellsOf 2 = 1 := by kernel_rfl
    have cS : Tryd.prog.cellsOf 25 = 1 := by kernel_rfl
    have cT : Tryd.prog.cellsOf 9 = 1 := by kernel_rfl
    match ys, hyl, cs', hlen with
    | [y0, y1, y2, y3, y4, y5], _, [v0, v1, v2, v3, v4, v5], _ =>
      have t0 := hfl 0 _ rfl
      have t1 := hfl 1 _ rfl
      have t2 := hfl 2 _ rfl
      have t3 := hfl 3 _ rfl
      have t4 := hfl 4 _ rfl
      have t5 := hfl 5 _ rfl
      simp [cI, cJ, cS, cT] at t0 t1 t2 t3 t4 t5
      obtain ⟨n0, e0, _, f0⟩ := DataW.trod_int Tryd.underlying3 t0
      obtain ⟨n1, e1, _, f1⟩ := DataW.trod_int Tryd.underlying2 t1
      obtain ⟨n2, e2, _, f2⟩ := DataW.trod_int Tryd.underlying2 t2
      obtain ⟨n3, e3, _, f3⟩ := DataW.trod_int Tryd.underlying2 t3
      obtain ⟨sl, ln, cp, e4, ok⟩ := list_open t4
      obtain ⟨by5, e5, _, hm5⟩ := DataW.trod_string Tryd.underlying9 t5
      simp at e0 e1 e2 e3 e5
      subst e0 e1 e2 e3 e4 e5
      have q0 := hcell 0 (by omega)
      have q1 := hcell 1 (by omega)
      have q2 := hcell 2 (by omega)
      have q3 := hcell 3 (by omega)
      have q4 := hcell 4 (by omega)
      have q5 := hcell 5 (by omega)
      simp only [add_at] at q0 q1 q2 q3 q4 q5
      exact ⟨n0, n1, n2, n3, sl, ln, cp, by5.data.toList, ⟨bounds f1, bounds f2, bounds f3, ok, by have : by5.data.toList.length ≤ _ := hm5; exact Nat.le_trans this (by decide)⟩, q0, q1, q2, q3, q4, q5⟩
set_option maxRecDepth 100000 in
set_option maxHeartbeats 1000000 in
theorem lifted (os : Os) (started : os.Started) (H : Type) (enc : TypeId × Value → H) :
    ReturnsInHanded {} Tryd.checked os 3 .any (fun w args => (Rows.moneyExactSpec.pre enc Tryd.prog Tryd.f3 [] false w args ∧ laidMetH Tryd.prog lst w) ∧ sizedMet enc Tryd.prog Tryd.f3 (OpenSpec.ofChange Rows.moneyExactSpec) false w args)
      (Rows.moneyExactSpec.post enc Tryd.prog Tryd.f3 false true false false) := by
  refine returnsInHanded_of_change_and (C := Tryd.checked) (X := fun w _ => laidMetH Tryd.prog lst w) (fun _ _ _ hh h => h.of_heap hh) own started (by kernel_rfl) Tryd.func3
    (ChangeSpec.witness_shaped (enc := enc) (C := Tryd.checked) (os := os) (X := fun w _ => laidMetH Tryd.prog lst w) false (World.doorLaid Tryd.prog 400 os) #[.slice none 0 0] 8 rfl (World.shaped_of_RefB (by kernel_rfl) (by kernel_rfl)) (by kernel_rfl) (by kernel_rfl) (by kernel_rfl) (door_met os _)) ?_
  intro W base args ds gs before hval0 hW _ _ hL _
  have hval : ∀ (j : Nat) t v, Tryd.f3.params[j]? = some t → args[j]? = some v → Value.okWide Tryd.prog W .any base t v := hval0
  have hW' := hW
  obtain ⟨p, q, hA0, hV, rfl, hfz, hnd⟩ := hW
  have hA : DataW.TrodAll enc Tryd.prog W 0 (fun _ => true) true Tryd.f3.params.toList args.toList ds p := hA0
  rw [Tryd.params3] at hA hval
  obtain ⟨v0, d0, rfl, rfl, h0⟩ := trodAll_one hA
  obtain ⟨rfl, rfl⟩ := trodVars_none hV
  obtain ⟨s0, n0, c0, rfl⟩ := okWide_slice Tryd.underlying22 (hval 0 22 v0 rfl rfl)
  have k0 := h0
  have lt0 : ∀ x ∈ p, x.block < W.heap.size := by obtain ⟨m, hm⟩ := k0; exact DataW.trod_lt m _ _ _ hm
  have w0 : ScrOk W s0 n0 := by
    obtain ⟨fuel, hf⟩ := h0
    exact scr_of hf
  clear hA0 hval0
  simp only [List.append_nil] at hW'
  refine (exact_walk s0 n0 c0 W w0 (tabP_of hL) (errW_of hL)).mono fun e W' ⟨he, hg⟩ => ?_
  subst he
  exact ⟨_, rfl, _, _, _, [], _, [], hW', trodAll_mk1 (shut_bool Tryd.underlying4 _), trodAll_mk1 (Below.trod laidOut (by kernel_rfl) (of_decide_eq_true (by kernel_rfl)) k0 hg lt0), rfl, hg.frame _, fun h => by cases h⟩

theorem over : Rows.moneyExactRow.holds Tryd.pinned (OpenSpec.ofChange Rows.moneyExactSpec) :=
  OpenClaim.holds_of_wide 3 Tryd.f3 rfl rfl rfl rfl rfl rfl rfl ⟨rfl, rfl, rfl, rfl, rfl⟩ rfl rfl rfl rfl rfl (by kernel_rfl) Tryd.func3 (by kernel_rfl)
    (of_decide_eq_true (by kernel_rfl)) (by unfold Func.isWrapper; first | (rw [if_pos (by decide +kernel)]; kernel_rfl) | (rw [if_neg (by decide +kernel)]; exact ⟨rfl, rfl⟩))
    (fun os started H enc _ => lifted os started H enc)
end Go.Proofs.YtfdahdloihgjeacDoor.moneyExact

namespace Go.Proofs.YtfdahdloihgjeacDoor
theorem moneyExact_card : Rows.MoneyExactCardSaid :=
  Claim7.holds_tied_plain_at .later [] [.data, .data, .data, .sentinel, .sentinel] true Rows.moneyExactCard.stood.harness true
    moneyExact.over (fun _ h => by cases h) (by kernel_rfl) (fun _ h => by cases h) moneyExact_row_tie rfl ⟨rfl, rfl⟩ (by kernel_rfl) rfl
    (fun f fn hf hfn => by
      obtain rfl : f = 3 := Option.some.inj ((show Tryd.prog.funcNamed Rows.moneyExactRow.func = some 3 by kernel_rfl).symm.trans hf) |>.symm
      obtain rfl : fn = Tryd.f3 := (Option.some.inj (Tryd.func3.symm.trans hfn)).symm
      exact ⟨by kernel_rfl, fun j t ht => by
        rw [Tryd.params3] at ht
        have hm : t ∈ [22] := by simpa using Array.mem_of_getElem? ht
        have hall : ([22].all fun u => !Tryd.prog.wantsStandIn u) = true := by kernel_rfl
        exact (show Tryd.prog.wantsStandIn t = false by simpa using List.all_eq_true.1 hall t hm)⟩)
    (by kernel_rfl)
#print axioms moneyExact_card
end Go.Proofs.YtfdahdloihgjeacDoor
