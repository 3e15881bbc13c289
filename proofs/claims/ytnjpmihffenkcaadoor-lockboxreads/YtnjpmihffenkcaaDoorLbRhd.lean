/-
  Ours: lockbox.readHeader.
-/
import Derived.Test.YtnjpmihffenkcaaDoorLbRtr
import Derived.Test.YtnjpmihffenkcaaDoorCalNum
import Derived.Deep.QuietTactic
import Derived.BigQuiet
import Derived.BigGuard
import Derived.Deep.RegionHeld
namespace Go.Proofs.YtnjpmihffenkcaaDoor
open Go.RowKit LbM LbF CalM
theorem results_four {fn : Func} {t u v x : Tmp} (h : fn.results = #[.tmp t, .tmp u, .tmp v, .tmp x]) (tmps : Array Value) (P : Program) (w : World) : (results fn tmps).run P w = .ok (.tuple #[tmps.getD t undef, tmps.getD u undef, tmps.getD v undef, tmps.getD x undef]) w := by
  simp [results, h]
theorem sizeD3 : (Tryd.prog.info? 50).map (·.size) = some 3 := by kernel_rfl
theorem oneD3 (a b c : Int) : ∀ v ∈ [Value.int .i64 a, .int .i64 b, .int .i64 c], v.oneCell' = true := fun v hv => by
  simp at hv
  rcases hv with rfl | rfl | rfl <;> rfl
theorem tabA_bel {w w' : World} (h : TabA w) (b : Below w.heap.size w w') : TabA w' := fun m h1 h2 => cell_up2 b (h m h1 h2)
theorem tabL_bel {w w' : World} (h : TabL w) (b : Below w.heap.size w w') : TabL w' := fun m h1 h2 => cell_up2 b (h m h1 h2)
theorem below_ad {w w' : World} (h : ∃ o n, w' = (w.alloc o).drewN n) : Below w.heap.size w w' := by
  obtain ⟨o, n, rfl⟩ := h
  exact below_drewN (below_alloc w o) n
/-- What readHeader answers. -/
def HedAns (bs : List Nat) (v : Value) (w : World) (e : Ending) (w' : World) : Prop := Below w.heap.size w w' ∧ match rdHead bs with
  | some (d, n, r) => ∃ vr, e = .returned (.tuple #[.int .i64 d, .int .i64 n, vr, .nilIface]) ∧ ∀ w0, RdB w0 v bs → RdB w0 vr r
  | none => e = .returned (.tuple #[.int .i64 0, .int .i64 0, .slice none 0 0, fltV 200 0])
set_option maxRecDepth 20000 in
set_option maxHeartbeats 8000000 in
theorem readHeader_at (bs : List Nat) (v : Value) (w : World) (hw : FormW w) (hA : TabA w) (hT : TabL w) (hl : bs.length ≤ 1000000) (h : RdB w v bs) (h8 : ∀ x ∈ bs, x < 256) : Calls Tryd.prog 43 #[v] w (HedAns bs v w) := by
  have RL : Hid (Calls Tryd.prog 60 #[v, .int .i64 0] w (LinAns 0 bs v w)) := readLine_at 0 (by decide) bs v w hw hl h h8
  have NY : Hid (∀ (y m k n : Int) (w' : World), Ok y m k → dA y m + k = n → Below w.heap.size w w' → Calls Tryd.prog 61 #[.agg #[.int .i64 y, .int .i64 m, .int .i64 k]] w' fun e w2 => e = .returned (.tuple #[.int .i64 n, .bool true]) ∧ Below w'.heap.size w' w2) := fun y m k n w' ho hd q => (number_at y m k n ho hd w' (tabA_bel hA q) (tabL_bel hT q)).mono fun e w2 h => ⟨h.1, below_ad h.2⟩
  have NN : Hid (∀ (y m k : Int) (w' : World), ¬ Ok y m k → Below w.heap.size w w' → Calls Tryd.prog 61 #[.agg #[.int .i64 y, .int .i64 m, .int .i64 k]] w' fun e w2 => e = .returned (.tuple #[.int .i64 0, .bool false]) ∧ Below w'.heap.size w' w2) := fun y m k w' ho q => (number_no y m k ho w' (tabL_bel hT q)).mono fun e w2 h => ⟨h.1, below_ad h.2⟩
  generalize hans : HedAns bs v w = ANS
  have AN0 : Hid (∀ w', Below w.heap.size w w' → rdHead bs = none → ANS (.returned (.tuple #[.int .i64 0, .int .i64 0, .slice none 0 0, fltV 200 0])) w') := fun w' b hn => by
    rw [← hans]
    unfold HedAns
    rw [hn]
    exact ⟨b, rfl⟩
  have AN1 : Hid (∀ w' d n vr r, Below w.heap.size w w' → rdHead bs = some (d, n, r) → (∀ w0, RdB w0 v bs → RdB w0 vr r) → ANS (.returned (.tuple #[.int .i64 d, .int .i64 n, vr, .nilIface])) w') := fun w' d n vr r b hn h1 => by
    rw [← hans]
    unfold HedAns
    rw [hn]
    exact ⟨b, vr, rfl, h1⟩
  clear h hw hA hT hl h8 hans
  go_enter Tryd.func43, Tryd.ntmps43
  go_wp2_with fail
  refine RL.out.mono ?_
  rintro e w2 ⟨b2, hm⟩
  clear RL
  cases hq : rdL 0 bs with
  | none =>
    rw [hq] at hm
    subst hm
    have NO : Hid (rdHead bs = none) := by show _ = _; unfold rdHead; rw [hq]
    have B2 : Hid (Below w.heap.size w w2) := b2
    clear hq b2
    go_wp2_with fail
    (try simp only [Exit.inBlock, Exit.then]); refine bodyPost_ret (results_four rfl _ _ _) rfl ?_
    exact AN0.out _ B2.out NO.out
  | some p =>
    obtain ⟨ns, r⟩ := p
    rw [hq] at hm
    obtain ⟨va, vr, rfl, rown, rrd⟩ := hm
    have hfit := (rdL_iff.1 hq).2
    obtain ⟨y, m, k, n, rfl, hy, hm, hk, hn⟩ := four (w1 := 4) (w2 := 2) (w3 := 2) (w4 := 6) hfit
    have HQ : Hid (rdHead bs = if Ok (y : Int) (m : Int) (k : Int) ∧ n ≠ 0 then some (dA (y : Int) (m : Int) + (k : Int), (n : Int), r) else none) := by show _ = _; unfold rdHead; rw [hq]
    obtain ⟨g, cap, rfl, hbg, hcell⟩ := rowL_at rown (by simp)
    have W4 : Hid (Below w.heap.size w w2 ∧ w2.cell? ⟨g, 0, none⟩ = some (.int .i64 (y : Int)) ∧ w2.cell? ⟨g, 1, none⟩ = some (.int .i64 (m : Int)) ∧ w2.cell? ⟨g, 2, none⟩ = some (.int .i64 (k : Int)) ∧ w2.cell? ⟨g, 3, none⟩ = some (.int .i64 (n : Int))) := ⟨b2, hcell 0 y rfl, hcell 1 m rfl, hcell 2 k rfl, hcell 3 n rfl⟩
    have RR : Hid (∀ w0, RdB w0 v bs → RdB w0 vr r) := rrd
    have n63 : (n : Int) ≤ 999999 := by omega
    clear rown rrd hfit hq hcell hbg b2 hy hm hk hn
    generalize w2 = w4 at *
    go_upto_region 4 with fail
    refine wp_region_held_drew (S := fun w' => w'.cell? ⟨g, 0, none⟩ = some (.int .i64 (y : Int)) ∧ w'.cell? ⟨g, 1, none⟩ = some (.int .i64 (m : Int)) ∧ w'.cell? ⟨g, 2, none⟩ = some (.int .i64 (k : Int))) (by kernel_rfl) (⟨W4.out.2.1, W4.out.2.2.1, W4.out.2.2.2.1⟩) (fun hH => ?_)
    refine wpAnyH_take (i := 0) (oi := { dst := some 22, op := Op.move (Operand.tmp 6), type := 79, pos := "batch.go:72", after := #[], guard := none }) (v := .slice (some ⟨g, 0, none⟩) 4 cap) rfl (by kernel_rfl) (by kernel_rfl) (by kernel_rfl) (fun _ _ _ h => h) (Or.inl ⟨by rfl, fun w' hs => by go_simp⟩) hH ?_
    try simp only [Act.put, List.setIfInBounds_toArray, List.set_cons_zero, List.set_cons_succ]
    refine wpAnyH_take (i := 1) (oi := { dst := some 23, op := Op.indexAddr 79 (Operand.tmp 22) (Operand.const (Value.int IntKind.i64 0)), type := 0, pos := "batch.go:72", after := #[{ on := 0, ground := Ground.data }], guard := none }) (v := .pointer (some ⟨g, 0, none⟩)) rfl (by kernel_rfl) (by kernel_rfl) (by kernel_rfl) (fun _ _ _ h => h) (Or.inl ⟨by rfl, fun w' hs => by go_simp⟩) hH ?_
    try simp only [Act.put, List.setIfInBounds_toArray, List.set_cons_zero, List.set_cons_succ]
    refine wpAnyH_take (i := 2) (oi := { dst := some 24, op := Op.load 2 (Operand.tmp 23), type := 2, pos := "batch.go:72", after := #[{ on := 1, ground := Ground.data }], guard := none }) (v := .int .i64 (y : Int)) rfl (by kernel_rfl) (by kernel_rfl) (by kernel_rfl) (fun _ _ _ h => h) (Or.inl ⟨by rfl, fun w' hs => by have c := hs.1; go_simp⟩) hH ?_
    try simp only [Act.put, List.setIfInBounds_toArray, List.set_cons_zero, List.set_cons_succ]
    refine wpAnyH_take (i := 3) (oi := { dst := some 25, op := Op.move (Operand.tmp 6), type := 79, pos := "batch.go:72", after := #[], guard := none }) (v := .slice (some ⟨g, 0, none⟩) 4 cap) rfl (by kernel_rfl) (by kernel_rfl) (by kernel_rfl) (fun _ _ _ h => h) (Or.inl ⟨by rfl, fun w' hs => by go_simp⟩) hH ?_
    try simp only [Act.put, List.setIfInBounds_toArray, List.set_cons_zero, List.set_cons_succ]
    refine wpAnyH_take (i := 4) (oi := { dst := some 26, op := Op.indexAddr 79 (Operand.tmp 25) (Operand.const (Value.int IntKind.i64 1)), type := 0, pos := "batch.go:72", after := #[{ on := 3, ground := Ground.data }], guard := none }) (v := .pointer (some ⟨g, 1, none⟩)) rfl (by kernel_rfl) (by kernel_rfl) (by kernel_rfl) (fun _ _ _ h => h) (Or.inl ⟨by rfl, fun w' hs => by go_simp⟩) hH ?_
    try simp only [Act.put, List.setIfInBounds_toArray, List.set_cons_zero, List.set_cons_succ]
    refine wpAnyH_take (i := 5) (oi := { dst := some 27, op := Op.load 2 (Operand.tmp 26), type := 2, pos := "batch.go:72", after := #[{ on := 4, ground := Ground.data }], guard := none }) (v := .int .i64 (m : Int)) rfl (by kernel_rfl) (by kernel_rfl) (by kernel_rfl) (fun _ _ _ h => h) (Or.inl ⟨by rfl, fun w' hs => by have c := hs.2.1; go_simp⟩) hH ?_
    try simp only [Act.put, List.setIfInBounds_toArray, List.set_cons_zero, List.set_cons_succ]
    refine wpAnyH_take (i := 6) (oi := { dst := some 28, op := Op.move (Operand.tmp 6), type := 79, pos := "batch.go:72", after := #[], guard := none }) (v := .slice (some ⟨g, 0, none⟩) 4 cap) rfl (by kernel_rfl) (by kernel_rfl) (by kernel_rfl) (fun _ _ _ h => h) (Or.inl ⟨by rfl, fun w' hs => by go_simp⟩) hH ?_
    try simp only [Act.put, List.setIfInBounds_toArray, List.set_cons_zero, List.set_cons_succ]
    refine wpAnyH_take (i := 7) (oi := { dst := some 29, op := Op.indexAddr 79 (Operand.tmp 28) (Operand.const (Value.int IntKind.i64 2)), type := 0, pos := "batch.go:72", after := #[{ on := 6, ground := Ground.data }], guard := none }) (v := .pointer (some ⟨g, 2, none⟩)) rfl (by kernel_rfl) (by kernel_rfl) (by kernel_rfl) (fun _ _ _ h => h) (Or.inl ⟨by rfl, fun w' hs => by go_simp⟩) hH ?_
    try simp only [Act.put, List.setIfInBounds_toArray, List.set_cons_zero, List.set_cons_succ]
    refine wpAnyH_take (i := 8) (oi := { dst := some 30, op := Op.load 2 (Operand.tmp 29), type := 2, pos := "batch.go:72", after := #[{ on := 7, ground := Ground.data }], guard := none }) (v := .int .i64 (k : Int)) rfl (by kernel_rfl) (by kernel_rfl) (by kernel_rfl) (fun _ _ _ h => h) (Or.inl ⟨by rfl, fun w' hs => by have c := hs.2.2; go_simp⟩) hH ?_
    try simp only [Act.put, List.setIfInBounds_toArray, List.set_cons_zero, List.set_cons_succ]
    refine wpAnyH_take (i := 9) (oi := { dst := some 31, op := Op.build 50 #[(0, Operand.tmp 24), (1, Operand.tmp 27), (2, Operand.tmp 30)], type := 50, pos := "batch.go:72", after := #[{ on := 2, ground := Ground.data }, { on := 5, ground := Ground.data }, { on := 8, ground := Ground.data }], guard := none }) (v := .agg #[.int .i64 (y : Int), .int .i64 (m : Int), .int .i64 (k : Int)]) rfl (by kernel_rfl) (by kernel_rfl) (by kernel_rfl) (fun _ _ _ h => h) (Or.inl ⟨by rfl, fun w' hs => by go_simp⟩) hH ?_
    try simp only [Act.put, List.setIfInBounds_toArray, List.set_cons_zero, List.set_cons_succ]
    refine wpAnyH_ready (rs := [10]) (by kernel_rfl) (by simp) ?_
    refine AllReadyH.cons (o := { dst := some 9, op := Op.alloc 50, type := 0, pos := "batch.go:72", after := #[], guard := none }) rfl (fun Kx hK => ?_) AllReadyH.nil
    go_simp
    refine hK.out _ _ ⟨cell_up2 (below_trans (Below.drew (Below.refl _ _)) (below_alloc _ _)) W4.out.2.1, cell_up2 (below_trans (Below.drew (Below.refl _ _)) (below_alloc _ _)) W4.out.2.2.1, cell_up2 (below_trans (Below.drew (Below.refl _ _)) (below_alloc _ _)) W4.out.2.2.2.1⟩ (fun hH => ?_)
    try simp only [Act.put, List.setIfInBounds_toArray, List.set_cons_zero, List.set_cons_succ]
    refine wpAnyH_ready (rs := [11]) (by kernel_rfl) (by simp) ?_
    refine AllReadyH.cons (o := { dst := none, op := Op.store 50 (Operand.tmp 9) (Operand.tmp 31), type := 0, pos := "batch.go:72", after := #[{ on := 10, ground := Ground.data }, { on := 9, ground := Ground.data }, { on := 0, ground := Ground.phase }, { on := 1, ground := Ground.phase }, { on := 2, ground := Ground.phase }, { on := 3, ground := Ground.phase }, { on := 4, ground := Ground.phase }, { on := 5, ground := Ground.phase }, { on := 6, ground := Ground.phase }, { on := 7, ground := Ground.phase }, { on := 8, ground := Ground.phase }, { on := 9, ground := Ground.phase }, { on := 10, ground := Ground.phase }], guard := none }) rfl (fun Kx hK => ?_) AllReadyH.nil
    refine op_putC (zs := [.int .i64 0, .int .i64 0, .int .i64 0]) [.int .i64 (y : Int), .int .i64 (m : Int), .int .i64 (k : Int)] rfl sizeD3 (oneD3 _ _ _) rfl _ _ rfl w4.heap.size rfl rfl (Blk.new 50 [.int .i64 0, .int .i64 0, .int .i64 0] w4.drew) ?_
    intro w5 nb5 g5
    refine hK.out _ _ ⟨cell_up2 (below_row (below_alloc w4.drew (.cells #[.int .i64 0, .int .i64 0, .int .i64 0] 50)) g5 (Nat.le_refl _)) W4.out.2.1, cell_up2 (below_row (below_alloc w4.drew (.cells #[.int .i64 0, .int .i64 0, .int .i64 0] 50)) g5 (Nat.le_refl _)) W4.out.2.2.1, cell_up2 (below_row (below_alloc w4.drew (.cells #[.int .i64 0, .int .i64 0, .int .i64 0] 50)) g5 (Nat.le_refl _)) W4.out.2.2.2.1⟩ (fun hH => ?_)
    try simp only [Act.put]
    refine wpAnyH_done (by kernel_rfl) ?_ _
    have b5 : Below w4.heap.size w4 w5 := below_row (below_trans (Below.drew (Below.refl _ _)) (below_alloc w4.drew (.cells #[.int .i64 0, .int .i64 0, .int .i64 0] 50))) g5 (Nat.le_refl _)
    have W5 : Hid (Blk w4.heap.size 50 [.int .i64 (y : Int), .int .i64 (m : Int), .int .i64 (k : Int)] w5 ∧ Below w.heap.size w w5 ∧ w5.cell? ⟨g, 3, none⟩ = some (.int .i64 (n : Int))) := ⟨nb5, below_trans W4.out.1 b5, cell_up2 b5 W4.out.2.2.2.2⟩
    clear nb5 g5 b5 hH W4
    obtain ⟨dn, hdn⟩ : ∃ dn, w4.heap.size = dn := ⟨_, rfl⟩
    simp only [hdn] at W5 ⊢
    clear hdn
    go_wp2_with (refine step_load rfl 50 _ rfl dn 0 rfl [.int .i64 (y : Int), .int .i64 (m : Int), .int .i64 (k : Int)] _ (Blk.all W5.out.1) Tryd.underlying50 rfl sizeD3 ?_)
    by_cases ho : Ok (y : Int) (m : Int) (k : Int)
    · obtain ⟨d, hd⟩ : ∃ d, dA (y : Int) (m : Int) + (k : Int) = d := ⟨_, rfl⟩
      have HO : Hid (Ok (y : Int) (m : Int) (k : Int) ∧ dA (y : Int) (m : Int) + (k : Int) = d) := ⟨ho, hd⟩
      clear ho hd
      refine (NY.out y m k d w5 HO.out.1 HO.out.2 W5.out.2.1).mono ?_
      rintro e w6 ⟨rfl, b6⟩
      have c3 := cell_up2 b6 W5.out.2.2
      have B6 : Hid (Below w.heap.size w w6) := below_trans W5.out.2.1 b6
      clear b6 W5
      by_cases hn0 : n = 0
      · have NO : Hid (rdHead bs = none) := by show _ = _; rw [HQ.out, if_neg (fun q => q.2 hn0)]
        subst hn0
        go_wp2_with fail
        (try simp only [Exit.inBlock, Exit.then]); refine bodyPost_ret (results_four rfl _ _ _) rfl ?_
        exact AN0.out _ B6.out NO.out
      · have YES : Hid (rdHead bs = some (d, (n : Int), r)) := by show _ = _; rw [HQ.out, if_pos ⟨HO.out.1, hn0⟩, HO.out.2]
        have e0 : ((n : Int) == 0) = false := by simp; omega
        clear hn0
        go_wp2_with fail
        (try simp only [Exit.inBlock, Exit.then]); refine bodyPost_ret (results_four rfl _ _ _) rfl ?_
        exact AN1.out _ _ _ _ _ B6.out YES.out RR.out
    · have NO : Hid (rdHead bs = none) := by show _ = _; rw [HQ.out, if_neg (fun q => ho q.1)]
      have HO : Hid (¬ Ok (y : Int) (m : Int) (k : Int)) := ho
      clear ho
      refine (NN.out y m k w5 HO.out W5.out.2.1).mono ?_
      rintro e w6 ⟨rfl, b6⟩
      have c3 := cell_up2 b6 W5.out.2.2
      have B6 : Hid (Below w.heap.size w w6) := below_trans W5.out.2.1 b6
      clear b6 W5
      go_wp2_with fail
      (try simp only [Exit.inBlock, Exit.then]); refine bodyPost_ret (results_four rfl _ _ _) rfl ?_
      exact AN0.out _ B6.out NO.out
end Go.Proofs.YtnjpmihffenkcaaDoor
