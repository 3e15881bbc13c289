/-
  Ours: the statements' sameMoves, at movements that are the same.
-/
import Derived.Test.YthidhjpmjgokgaaStQui
namespace Go.Proofs.Ythidhjpmjgokgaa
open Go.RowKit LedM StM

set_option maxRecDepth 20000 in
set_option maxHeartbeats 4000000 in
theorem sameM_yes (ms : List (List Int)) (va vb : Value) (w : World) (hl : ms.length ≤ 1000000000) (ok : ∀ m ∈ ms, MoOk m) (h : RdMo w va ms) (h' : RdMo w vb ms) : Calls Try.prog 8 #[va, vb] w fun e w' => e = .returned (.bool true) ∧ ∃ n, w' = w.drewN n := by
  obtain ⟨ao, cap, rfl, hc, hn, H⟩ := h
  obtain ⟨ao', cap', rfl, hc', hn', H'⟩ := h'
  obtain ⟨L, hL⟩ : ∃ L, ms.length = L := ⟨_, rfl⟩
  have GI : Hid (∀ i, i < L → ∃ m, MoOk m ∧ ∃ g o g' o', ao = some ⟨g, o, none⟩ ∧ ao' = some ⟨g', o', none⟩ ∧ w.rangeAt g (o + i * 14) (bkL m) ∧ w.rangeAt g' (o' + i * 14) (bkL m)) := fun i hi => by
    have hm : ms[i]? = some ms[i] := List.getElem?_eq_getElem (by omega)
    obtain ⟨g, o, e, _, r⟩ := H i _ hm
    obtain ⟨g', o', e', _, r'⟩ := H' i _ hm
    exact ⟨_, ok _ (List.getElem_mem (by omega)), g, o, g', o', e, e', r, r'⟩
  rw [hL] at hc hc' hl ⊢
  clear H H' hL hn hn' ok
  have e0 : ((L : Int) != (L : Int)) = false := by simp
  go_enter Try.func8, Try.ntmps8
  go_wp2_with fail
  go_loopw [5] (fun vk wr => ∃ k n : Nat, vk = .int .i64 (k : Int) ∧ k ≤ L ∧ wr = w.drewN n) (fun vk _ => L - (intOf vk).toNat)
  case atStart => exact ⟨0, 0, rfl, by omega, rfl⟩
  case round =>
    obtain ⟨k, n, rfl, hk, rfl⟩ := hrel
    by_cases hlt : (k : Int) < (L : Int)
    · obtain ⟨m, mok, g, o, g', o', rfl, rfl, a0, b0⟩ := GI.out k (by omega)
      have A0 : Hid (∀ n, (w.drewN n).rangeAt g (o + k * 14) (bkL m)) := fun n => a0
      have B0 : Hid (∀ n, (w.drewN n).rangeAt g' (o' + k * 14) (bkL m)) := fun n => b0
      have EQ : Hid (EqS 34 (bkL m)) := eqs_mo m mok
      have IM : Hid ((Try.prog.info? 34).map (·.size) = some (bkL m).length) := infoMl mok.1
      clear GI a0 b0 mok
      go_wp2_with fail
      refine wp_region_quiet_lit (by kernel_rfl) (by kernel_rfl) ?_
      repeat (first
        | go_big_quiet_skip
        | (go_big_quiet_want; first
          | (refine quiet_loadG 34 _ rfl g (o + k * 14) rfl (bkL m) _ (fun w' hw' => by obtain ⟨n', rfl⟩ := hw'; rw [World.drewN_drewN]; exact A0.out _) Try.underlying34 rfl IM.out ?_; go_big_quiet_on; simp only [Act.put, List.setIfInBounds_toArray, List.set_cons_succ, List.set_cons_zero])
          | (refine quiet_loadG 34 _ rfl g' (o' + k * 14) rfl (bkL m) _ (fun w' hw' => by obtain ⟨n', rfl⟩ := hw'; rw [World.drewN_drewN]; exact B0.out _) Try.underlying34 rfl IM.out ?_; go_big_quiet_on; simp only [Act.put, List.setIfInBounds_toArray, List.set_cons_succ, List.set_cons_zero])
          | (refine quiet_neqS 34 _ _ _ rfl (bkL m) rfl rfl (by kernel_rfl) EQ.out ?_; go_big_quiet_on; simp only [Act.put, List.setIfInBounds_toArray, List.set_cons_succ, List.set_cons_zero])
          | (go_big_quiet_op; go_big_quiet_on)))
      refine wpQuiet_nil ?_
      intro _ hw'
      obtain ⟨nq, hw''⟩ := hw'
      subst hw''
      go_wp2_with fail
      go_roundw
      case rel => exact ⟨k + 1, _, by go_num, by omega, rfl⟩
      case measure => simp [intOf]; omega
    · clear GI
      go_wp2_with fail
      go_ret
      exact ⟨rfl, n, rfl⟩
end Go.Proofs.Ythidhjpmjgokgaa
