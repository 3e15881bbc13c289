/-
  Ours, in the frame of the given toy: the row and the card of LockboxReads from its walk.
-/
import Derived.Test.YtnjpmihffenkcaaDoorLbTabH
import Derived.Test.YtnjpmihffenkcaaDoorLbRow
import Derived.Test.YtnjpmihffenkcaaDoorLbRea
import Derived.Deep.DeepWitnessRowRef
namespace Go.Proofs.YtnjpmihffenkcaaDoor
open Go.ChangeShapes Go.WideShapes Go.ChangeAt Go.RowKit LbM LbF CalM
section
variable {H : Type} {enc : TypeId × Value → H} {W : World}
theorem bytesM_open {a : Option Addr} {len cap : Nat} {d : DataW H} {ps : List MemPlace} (h : DataW.Trod enc Tryd.prog W 0 (fun _ => true) true 26 (.slice a len cap) d ps) : ∃ bs : List Nat, bs.length = len ∧ RdB W (.slice a len cap) bs ∧ (∀ z ∈ bs, z < 256) ∧ bs.length ≤ 9223372036854775807 := by
  obtain ⟨bs, h1, h2, h3, -⟩ := bytes_open Tryd.underlying26 Tryd.underlying5 (by kernel_rfl) h
  have hm : len ≤ maxLen := by
    obtain ⟨fuel, hf⟩ := h
    rcases open_ints Tryd.underlying26 Tryd.underlying5 (by kernel_rfl) hf with ⟨hcs, _⟩ | ⟨x, l, c, zs, hcs, _, hl, hm, _⟩
    · simp [Value.cells] at hcs
      omega
    · simp [Value.cells] at hcs
      omega
  exact ⟨bs, h1, h2, h3, by rw [h1]; unfold maxLen at hm; omega⟩
end
end Go.Proofs.YtnjpmihffenkcaaDoor

namespace Go.Proofs.YtnjpmihffenkcaaDoor.lockboxReads
open Go.ChangeShapes Go.WideShapes Go.ChangeAt Go.RowKit

set_option maxRecDepth 100000 in
theorem contract (H : Type) (enc : TypeId × Value → H) (W : World) (base : Nat) (args : Array Value) (ds gs : List (DataW H)) (before : List MemPlace)
    (hval : ∀ (j : Nat) t v, Tryd.f6.params[j]? = some t → args[j]? = some v → Value.okWide Tryd.prog W .any base t v)
    (hW : DataW.Whole enc Tryd.prog Tryd.f6.params.toList Rows.lockboxReadsSpec.vars false W args.toList ds gs before) (hL : laidMetH Tryd.prog lstD W) :
    Calls Tryd.prog 6 args W fun e W' => ∃ v, e = .returned v ∧ Rows.lockboxReadsSpec.post enc Tryd.prog Tryd.f6 false true false false W args v W' := by
  have hT := tabD_of hL
  have hW' := hW
  obtain ⟨p, q, hA0, hV, rfl, hfz, hnd⟩ := hW
  have hA : DataW.TrodAll enc Tryd.prog W 0 (fun _ => true) true Tryd.f6.params.toList args.toList ds p := hA0
  rw [Tryd.params6] at hA hval
  have hAll := hA
  obtain ⟨v0, vs0, d0, ds0, p0, q0, hargs, rfl, rfl, h0, r0⟩ := trodAll_cons hA
  obtain ⟨rfl, rfl, rfl⟩ := trodAll_nil r0
  obtain rfl : args = #[v0] := by cases args; simp_all
  obtain ⟨rfl, rfl⟩ := trodVars_none hV
  obtain ⟨x0, len0, cap0, rfl⟩ := okWide_slice Tryd.underlying26 (hval 0 26 v0 rfl rfl)
  obtain ⟨bs0, ln0, rd0, hb0, hm0⟩ := bytesM_open h0
  clear hA0 hA
  refine (reads_any bs0 _ W hm0 hT rd0 hb0).mono fun e W' ⟨he, bel⟩ => ?_
  subst he
  exact ⟨_, rfl, _, _, _, [], _, [], hW', trodAll_mk1 (shut_bool Tryd.underlying4 _), trodAll_below laidOut bel (by kernel_rfl) hAll, rfl, bel.frame _, fun h => by cases h⟩


theorem laid_met (os : Os) : laidMetH Tryd.prog Rows.lockboxReadsRow.laid ((laidWorld os).forCall (fun _ _ => 0) ⟨#[], #[.slice none 0 0], []⟩).memory := laidMetH_of_parts (laidMet_of_run' 8 (by kernel_rfl) (by kernel_rfl)) (by kernel_rfl)
theorem reads (os : Os) {H : Type} (enc : TypeId × Value → H) : ∃ places, DataW.whole enc Tryd.prog ((laidWorld os).forCall (fun _ _ => 0) ⟨#[], #[.slice none 0 0], []⟩).memory Tryd.f6.params.toList Rows.lockboxReadsSpec.vars false (#[.slice none 0 0] : Array Value).toList 8 = some ([.nil], [], places) :=
  ⟨[], by kernel_rfl⟩

set_option maxRecDepth 100000 in
theorem lifted (os : Os) (started : os.Started) (H : Type) (enc : TypeId × Value → H) (F : Stop.Interp) :
    ReturnsInHanded {} Tryd.checked os 6 .any ((OpenSpec.ofChange Rows.lockboxReadsSpec).preRow enc Tryd.prog Tryd.f6 Rows.lockboxReadsRow.domain false Rows.lockboxReadsRow.laid) (((OpenSpec.ofChange Rows.lockboxReadsSpec).at F).post enc Tryd.prog Tryd.f6 false true false false) := by
  obtain ⟨places, hx⟩ := reads os enc
  refine returnsInHanded_of_row (C := Tryd.checked) (s := OpenSpec.ofChange Rows.lockboxReadsSpec) own started (by kernel_rfl) Tryd.func6
    (witness_row_atRef (enc := enc) (C := Tryd.checked) false (laidWorld os) #[.slice none 0 0] rfl (by kernel_rfl) (by kernel_rfl) (by kernel_rfl)
      (OpenSpec.preRow_of_cond 8 hx (by kernel_rfl) (fun k hk => by cases hk) (by kernel_rfl) (laid_met os))) ?_
  intro W base args ds gs before hval hW _ _ _ hL _ _
  exact contract H enc W base args ds gs before hval hW hL

theorem over : Rows.LockboxReadsSaid :=
  OpenClaim.holds_of_cond 6 Tryd.f6 rfl rfl rfl rfl rfl rfl rfl ⟨rfl, rfl, rfl, rfl, rfl⟩ rfl rfl rfl rfl rfl (by kernel_rfl) Tryd.func6 (by kernel_rfl)
    (of_decide_eq_true (by kernel_rfl)) (by unfold Func.isWrapper; first | (rw [if_pos (by decide +kernel)]; kernel_rfl) | (rw [if_neg (by decide +kernel)]; exact ⟨rfl, rfl⟩))
    (fun os started H enc _ F => by rw [OpenClaim.pre_eq_preRow]; exact lifted os started H enc F)
theorem plain (f : FuncId) (fn : Func) (hf : Tryd.pinned.checked.prog.funcNamed "arrears/arrearslaw20.LockboxReads" = some f) (hfn : Tryd.pinned.checked.prog.funcs[f]? = some fn) :
    true = Tryd.pinned.checked.prog.looks [] ∧ ∀ (j : Nat) t, fn.params[j]? = some t → Tryd.pinned.checked.prog.wantsStandIn t = false := by
  obtain rfl : f = 6 := Option.some.inj ((show Tryd.prog.funcNamed "arrears/arrearslaw20.LockboxReads" = some 6 by kernel_rfl).symm.trans hf) |>.symm
  obtain rfl : fn = Tryd.f6 := (Option.some.inj (Tryd.func6.symm.trans hfn)).symm
  refine ⟨by kernel_rfl, fun j t ht => ?_⟩
  rw [Tryd.params6] at ht
  have hm : t ∈ [26] := by simpa using Array.mem_of_getElem? ht
  have hall : ([26].all fun u => !Tryd.prog.wantsStandIn u) = true := by kernel_rfl
  exact (show Tryd.prog.wantsStandIn t = false by simpa using List.all_eq_true.1 hall t hm)
end Go.Proofs.YtnjpmihffenkcaaDoor.lockboxReads

namespace Go.Proofs.YtnjpmihffenkcaaDoor
theorem lockboxReads_card : Rows.LockboxReadsCardSaid :=
  Claim7.holds_tied_plain_at .later [] _ _ _ _ lockboxReads.over (fun _ h => by cases h) (by kernel_rfl) (fun _ h => by cases h) lockboxReads_row_tie rfl ⟨rfl, rfl⟩ (by kernel_rfl) rfl lockboxReads.plain (by kernel_rfl)
#print axioms lockboxReads_card
end Go.Proofs.YtnjpmihffenkcaaDoor
