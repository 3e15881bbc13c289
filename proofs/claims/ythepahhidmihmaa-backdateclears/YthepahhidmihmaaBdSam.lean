/-
  Ours: the statement's sameEntries at entries that are the same; BackdateEntries.
-/
import Derived.Test.YthepahhidmihmaaBdRef
import Derived.Deep.RegionHeld3
import Derived.Deep.MidRow
import Derived.Deep.QuietTactic
import Derived.BigQuiet
namespace Go.Proofs.Ythepahhidmihmaa
open Go.RowKit LedM BdM

theorem quiet_loadG {P : Program} {C : World → Prop} {K : Act → Prop} {o : Oper} {a : Act} (ty : TypeId) (x : Operand) (ho : o.op = .load ty x) (G off : Nat) (hx : a.eval x = .pointer (some ⟨G, off, none⟩)) (cs : List Value) (d : TypeDesc)
    (hc : ∀ w, C w → w.rangeAt G off cs) (hu : P.underlying ty = some d) (hd : d.isRow = true) (hi : (P.info? ty).map (·.size) = some cs.length) (hk : K (a.put o.dst (.agg cs.toArray))) : o.quiet P a C K :=
  ⟨_, fun w hw => by
    unfold Oper.quietAt execOp
    simp only [ho, hx, Instr.loadAt, Instr.sureAddr, Sem.run_bind, Sem.run_pure, Result.andThen_ok, run_loadVar_mid w G off ty cs d (hc w hw) hu hd hi]
    exact ⟨rfl, rfl⟩, hk⟩
theorem quiet_neqT {C : World → Prop} {K : Act → Prop} {o : Oper} {a : Act} (t t' : TypeId) (x y : Operand) (ho : o.op = .binOp .neq t x y t') (X : List Value) (hx : a.eval x = .agg X.toArray) (hy : a.eval y = .agg X.toArray)
    (hg : Try.prog.eqGuardType Try.prog.depth t = false) (he : EqT t X X true) (hk : K (a.put o.dst (.bool false))) : o.quiet Try.prog a C K :=
  ⟨_, fun w _ => by
    unfold Oper.quietAt execOp
    simp only [ho, hx, hy, Sem.run_bind, run_eqGuard_agg w _ _ _ _ _ _ hg, Result.andThen_ok, run_neq_struct, he w, Sem.run_pure]
    exact ⟨rfl, rfl⟩, hk⟩
namespace BdM
theorem es_ok {l : List Int} (h : Bal l) : ∀ k, ∀ e ∈ es k l, EntOk e
  | 0, e, he => by simp [es] at he
  | k + 1, e, he => by
    by_cases hz : it k l = z12
    · rw [show es (k + 1) l = es k l from (if_pos hz : (if it k l = z12 then es k l else es k l ++ [ent (it k l)]) = es k l)] at he
      exact es_ok h k e he
    · rw [(it_go hz).2, List.mem_append] at he
      rcases he with he | he
      · exact es_ok h k e he
      · have bal := h.keeps k
        obtain ⟨uu, dd⟩ := bal.ne hz
        have bu := bal.bnd (fUp (it k l))
        obtain ⟨_, _, _, a1⟩ := bal.two hz
        have al := am_le (l := it k l)
        rw [List.mem_singleton.1 he]
        refine ⟨?_, ?_, ?_⟩
        · show i64 (fUp (it k l) : Int); unfold i64; omega
        · show i64 (fDn (it k l) : Int); unfold i64; omega
        · show i64 (am (it k l)); unfold i64; omega
theorem mv_ok {l : List Int} (h : BkOk l) : (∀ e ∈ mv l, EntOk e) ∧ (mv l).length ≤ 11 := by
  unfold mv
  cases hb : okB l
  · exact ⟨fun e he => by simp at he, by simp⟩
  · exact ⟨es_ok (bal_of h hb) 12, (bal_of h hb).eleven⟩
end BdM

set_option maxHeartbeats 2000000 in
theorem sameE_yes (ms : List Ent) (va vb : Value) (w : World) (hl : ms.length ≤ 1000000000) (ok : ∀ m ∈ ms, EntOk m) (h : RdE w va ms) (h' : RdE w vb ms) : Calls Try.prog 7 #[va, vb] w fun e w' => e = .returned (.bool true) ∧ ∃ n, w' = w.drewN n := by
  obtain ⟨ao, cap, rfl, hc, hn, H⟩ := h
  obtain ⟨ao', cap', rfl, hc', hn', H'⟩ := h'
  obtain ⟨L, hL⟩ : ∃ L, ms.length = L := ⟨_, rfl⟩
  have GI : Hid (∀ i, i < L → ∃ m, EntOk m ∧ ∃ g o g' o', ao = some ⟨g, o, none⟩ ∧ ao' = some ⟨g', o', none⟩ ∧ w.rangeAt g (o + i * 3) (entL m) ∧ w.rangeAt g' (o' + i * 3) (entL m)) := fun i hi => by
    obtain ⟨g, o, e, _, r⟩ := H i (by omega)
    obtain ⟨g', o', e', _, r'⟩ := H' i (by omega)
    exact ⟨_, ok _ (by rw [eN_at (by omega)]; exact List.getElem_mem _), g, o, g', o', e, e', r, r'⟩
  rw [hL] at hc hc' hl ⊢
  clear H H' hL hn hn' ok
  have e0 : ((L : Int) != (L : Int)) = false := by simp
  go_enter Try.func7, Try.ntmps7
  go_wp2_with fail
  go_loopw [5] (fun vk wr => ∃ k n : Nat, vk = .int .i64 (k : Int) ∧ k ≤ L ∧ wr = w.drewN n) (fun vk _ => L - (intOf vk).toNat)
  case atStart => exact ⟨0, 0, rfl, by omega, rfl⟩
  case round =>
    obtain ⟨k, n, rfl, hk, rfl⟩ := hrel
    by_cases hlt : (k : Int) < (L : Int)
    · obtain ⟨m, mok, g, o, g', o', rfl, rfl, a0, b0⟩ := GI.out k (by omega)
      have A0 : Hid (∀ n, (w.drewN n).rangeAt g (o + k * 3) (entL m)) := fun n => a0
      have B0 : Hid (∀ n, (w.drewN n).rangeAt g' (o' + k * 3) (entL m)) := fun n => b0
      have EQ : Hid (EqT 30 (entL m) (entL m) true) := eqt_ent mok
      have IM : Hid ((Try.prog.info? 30).map (·.size) = some (entL m).length) := infoE m
      clear GI a0 b0 mok
      go_wp2_with fail
      refine wp_region_quiet_lit (by kernel_rfl) (by kernel_rfl) ?_
      repeat (first
        | go_big_quiet_skip
        | (go_big_quiet_want; first
          | (refine quiet_loadG 30 _ rfl g (o + k * 3) rfl (entL m) _ (fun w' hw' => by obtain ⟨n', rfl⟩ := hw'; rw [World.drewN_drewN]; exact A0.out _) Try.underlying30 rfl IM.out ?_; go_big_quiet_on; simp only [Act.put, List.setIfInBounds_toArray, List.set_cons_succ, List.set_cons_zero])
          | (refine quiet_loadG 30 _ rfl g' (o' + k * 3) rfl (entL m) _ (fun w' hw' => by obtain ⟨n', rfl⟩ := hw'; rw [World.drewN_drewN]; exact B0.out _) Try.underlying30 rfl IM.out ?_; go_big_quiet_on; simp only [Act.put, List.setIfInBounds_toArray, List.set_cons_succ, List.set_cons_zero])
          | (refine quiet_neqT 30 _ _ _ rfl (entL m) rfl rfl (by kernel_rfl) EQ.out ?_; go_big_quiet_on; simp only [Act.put, List.setIfInBounds_toArray, List.set_cons_succ, List.set_cons_zero])
          | (go_big_quiet_op; go_big_quiet_on)))
      refine wpQuiet_nil ?_
      intro _ hw'
      obtain ⟨nq, hw''⟩ := hw'
      subst hw''
      go_wp2_with fail
      go_roundw
      case rel => exact ⟨k + 1, _, by go_num, by omega, rfl⟩
      case measure => simp [intOf]; omega
    · clear GI
      go_wp2_with fail
      go_ret
      exact ⟨rfl, n, rfl⟩

set_option maxHeartbeats 1000000 in
theorem bdEntries_any (l : List Int) (w : World) (hl : BkOk l) : Calls Try.prog 4 #[.agg (bkL l).toArray] w fun e w' => e = .returned (.bool true) ∧ Below w.heap.size w w' := by
  have EN : Hid (∀ w', Calls Try.prog 5 #[.agg (bkL l).toArray] w' fun e w2 => ∃ v, e = .returned (.tuple #[v, .bool (okB l)]) ∧ RowE w'.heap.size w2 v (mv l) ∧ Below w'.heap.size w' w2) := fun w' => entries_at l w' hl
  have RN : Hid (∀ w', Calls Try.prog 6 #[.agg (bkL l).toArray] w' fun e w2 => ∃ v, e = .returned (.tuple #[v, .bool (okB l)]) ∧ RowE w'.heap.size w2 v (mv l) ∧ Below w'.heap.size w' w2) := fun w' => rentries_at l w' hl
  have SE : Hid (∀ w' va vb, RdE w' va (mv l) → RdE w' vb (mv l) → Calls Try.prog 7 #[va, vb] w' fun e w2 => e = .returned (.bool true) ∧ ∃ n, w2 = w'.drewN n) := fun w' va vb ha hb => sameE_yes (mv l) va vb w' (by have := (mv_ok hl).2; omega) (mv_ok hl).1 ha hb
  have NB : Hid (Blk w.heap.size 25 (bkL l) (w.alloc (.cells (bkL l).toArray 25))) := Blk.new _ _ _
  have BB : Hid (Below w.heap.size w (w.alloc (.cells (bkL l).toArray 25))) := below_alloc w _
  have CB : Hid ((Try.prog.info? 25).map (·.size) = some (bkL l).length) := by show _ = _; rw [bkL_len, hl.1]; exact cellsBk
  clear hl
  generalize okB l = b at *
  generalize mv l = M at *
  have eb : (b == b) = true := by simp
  go_enter Try.func4, Try.ntmps4
  go_upto_region 1 with fail
  generalize w.alloc (.cells (bkL l).toArray 25) = w2 at *
  go_wp2_with (refine step_load rfl 25 _ rfl w.heap.size 0 rfl (bkL l) _ NB.out.all Try.underlying25 rfl CB.out ?_)
  refine (EN.out w2).mono ?_
  rintro e w3 ⟨va, rfl, r3, b3⟩
  have NB3 : Hid (Blk w.heap.size 25 (bkL l) w3) := NB.out.below b3
  have B3 : Hid (Below w.heap.size w w3) := below_trans BB.out b3
  have R3 : Hid (RdE w3 va M) := r3.rd
  clear r3 b3 NB BB
  go_wp2_with (refine step_load rfl 25 _ rfl w.heap.size 0 rfl (bkL l) _ NB3.out.all Try.underlying25 rfl CB.out ?_)
  refine (RN.out w3).mono ?_
  rintro e w4 ⟨vb, rfl, r4, b4⟩
  have B4 : Hid (Below w.heap.size w w4) := below_trans B3.out b4
  have R3' : Hid (RdE w4 va M) := R3.out.later b4
  have R4 : Hid (RdE w4 vb M) := r4.rd
  clear r4 b4 NB3 B3
  go_wp2_with fail
  refine (SE.out w4 va vb R3'.out R4.out).mono ?_
  rintro e w5 ⟨rfl, n, rfl⟩
  go_wp2_with fail
  go_ret
  exact ⟨rfl, below_drewN B4.out n⟩
end Go.Proofs.Ythepahhidmihmaa
