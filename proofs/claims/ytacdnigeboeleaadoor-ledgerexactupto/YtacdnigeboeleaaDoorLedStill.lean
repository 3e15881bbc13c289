/-
  Ours: still; the document's Reverse.
-/
import Derived.Test.YtacdnigeboeleaaDoorLedMark
import Derived.Test.YtacdnigeboeleaaDoorLedCut
import Derived.Deep.RegionWith
namespace Go.Proofs.YtacdnigeboeleaaDoor
open Go.RowKit LedM

theorem below_step {w a b : World} (h : Below w.heap.size w a) (k : Below a.heap.size a b) : Below w.heap.size w b := below_trans h k
set_option maxRecDepth 20000 in
set_option maxHeartbeats 1000000 in
theorem still_yes (es : List Ent) (a : Option Addr) (c : Nat) (vl : Value) (w : World) (hl : es.length ≤ 100000000) (h : RdE w (.slice a (es ++ [mkE 1, mkE 2]).length c) (es ++ [mkE 1, mkE 2])) (h' : RdE w vl es) :
    Calls Tryd.prog 15 #[.slice a (es ++ [mkE 1, mkE 2]).length c, vl] w fun e w' => e = .returned (.bool true) ∧ Below w.heap.size w w' := by
  obtain ⟨L, hL⟩ : ∃ L, es.length = L := ⟨_, rfl⟩
  have hM : (es ++ [mkE 1, mkE 2]).length = L + 2 := by rw [List.length_append, hL]; rfl
  have hc : L + 2 ≤ c := by obtain ⟨_, _, e, h1, _⟩ := h; injection e with e1 e2 e3; rw [← hM]; omega
  rw [hM] at h ⊢
  have T1 : Hid (∀ w', Below w.heap.size w w' → RdE w' (.slice a L c) es ∧ RdE w' vl es) := fun w' hb => ⟨by have := (h.later hb).take (k := L) (by omega); rwa [List.take_left' hL] at this, h'.later hb⟩
  have T2 : Hid (∀ w', Below w.heap.size w w' → RdE w' (sliced a L (L + 2) c 3) [mkE 1, mkE 2]) := fun w' hb => by have := (h.later hb).cutlo (k := L) (by omega); rwa [List.drop_left' hL] at this
  have AL : Hid (∀ fs va vb w', fs.length ≤ 100000000 → RdE w' va fs → RdE w' vb fs → Calls Tryd.prog 13 #[va, vb] w' fun e w2 => e = .returned (.bool true) ∧ Below w'.heap.size w' w2) := fun fs va vb w' h0 h1 h2 => (alike_yes fs va vb w' (by omega) h1 h2).mono fun e w2 ⟨x, n, y⟩ => ⟨x, by rw [y]; exact below_drewN (Below.refl _ _) n⟩
  have M1 : Hid (∀ w', Calls Tryd.prog 14 #[.int .i64 1] w' fun e w2 => e = .returned (.agg (entL (mkE 1)).toArray) ∧ Below w'.heap.size w' w2) := fun w' => mark_at 1 w' (by omega) (by omega)
  have M2 : Hid (∀ w', Calls Tryd.prog 14 #[.int .i64 2] w' fun e w2 => e = .returned (.agg (entL (mkE 2)).toArray) ∧ Below w'.heap.size w' w2) := fun w' => mark_at 2 w' (by omega) (by omega)
  have q1 := fun W => slice_hi a (L + 2) c L (by omega) W
  have q2 := fun W => slice_lo a (L + 2) c L (by omega) W
  have hel : ∀ e : Ent, (entL e).length = 3 := fun _ => rfl
  obtain ⟨av, capv, evl, _⟩ := id h'
  rw [hL] at evl
  subst evl
  generalize sliced a L (L + 2) c 3 = vlo at *
  have LE : Hid (es.length ≤ 100000000) := hl
  have hl' : L ≤ 100000000 := by omega
  have hw3 : IntKind.i64.wrap ((L : Int) + 2) = (L : Int) + 2 := by rw [IntKind.wrap_i64]; omega
  have hi0 : (0 : Int) ≤ (L : Int) := by omega
  have hi1 : (L : Int) ≤ (c : Int) := by omega
  have hi2 : (L : Int) ≤ ((L + 2 : Nat) : Int) := by omega
  clear h h' hM hL hl
  go_enter Tryd.func15, Tryd.ntmps15
  go_upto_region 2 with fail
  refine wp_region_held_drew (S := fun w' => Below w.heap.size w w') (by kernel_rfl) (below_drewN (Below.refl _ _) 1) (fun hH => ?_)
  refine wpAnyH_take (i := 0) (oi := { dst := some 8, op := Op.move (Operand.tmp 0), type := 26, pos := "law.go:47", after := #[], guard := none }) (v := .slice a (L + 2) c) rfl (by kernel_rfl) (by kernel_rfl) (by kernel_rfl) (fun _ _ _ h => h) (Or.inl ⟨by rfl, fun w' _ => by go_simp⟩) hH ?_
  simp only [Act.put, List.setIfInBounds_toArray, List.set_cons_zero, List.set_cons_succ]
  refine wpAnyH_take (i := 1) (oi := { dst := some 9, op := Op.call { callee := Callee.builtin Builtin.len, args := #[Operand.tmp 8], argTypes := #[26] }, type := 3, pos := "law.go:47", after := #[{ on := 0, ground := Ground.data }], guard := none }) (v := .int .i64 ((L : Int) + 2)) rfl (by kernel_rfl) (by kernel_rfl) (by kernel_rfl) (fun _ _ _ h => h) (Or.inl ⟨by rfl, fun w' _ => by go_simp⟩) hH ?_
  simp only [Act.put, List.setIfInBounds_toArray, List.set_cons_zero, List.set_cons_succ]
  refine wpAnyH_take (i := 2) (oi := { dst := some 10, op := Op.move (Operand.tmp 5), type := 3, pos := "law.go:47", after := #[], guard := none }) (v := .int .i64 (L : Int)) rfl (by kernel_rfl) (by kernel_rfl) (by kernel_rfl) (fun _ _ _ h => h) (Or.inl ⟨by rfl, fun w' _ => by go_simp⟩) hH ?_
  simp only [Act.put, List.setIfInBounds_toArray, List.set_cons_zero, List.set_cons_succ]
  refine wpAnyH_take (i := 3) (oi := { dst := some 11, op := Op.binOp BinOp.add 3 (Operand.tmp 10) (Operand.const (Value.int IntKind.i64 2)) 3, type := 3, pos := "law.go:47", after := #[{ on := 2, ground := Ground.data }], guard := none }) (v := .int .i64 ((L : Int) + 2)) rfl (by kernel_rfl) (by kernel_rfl) (by kernel_rfl) (fun _ _ _ h => h) (Or.inl ⟨by rfl, fun w' _ => by go_simp⟩) hH ?_
  simp only [Act.put, List.setIfInBounds_toArray, List.set_cons_zero, List.set_cons_succ]
  refine wpAnyH_take (i := 4) (oi := { dst := some 12, op := Op.binOp BinOp.eql 3 (Operand.tmp 9) (Operand.tmp 11) 3, type := 4, pos := "law.go:47", after := #[{ on := 1, ground := Ground.data }, { on := 3, ground := Ground.data }], guard := none }) (v := .bool true) rfl (by kernel_rfl) (by kernel_rfl) (by kernel_rfl) (fun _ _ _ h => h) (Or.inl ⟨by rfl, fun w' _ => by go_simp⟩) hH ?_
  simp only [Act.put, List.setIfInBounds_toArray, List.set_cons_zero, List.set_cons_succ]
  refine wpAnyH_take (i := 5) (oi := { dst := some 13, op := Op.move (Operand.tmp 12), type := 4, pos := "law.go:47", after := #[{ on := 4, ground := Ground.data }], guard := none }) (v := .bool true) rfl (by kernel_rfl) (by kernel_rfl) (by kernel_rfl) (fun _ _ _ h => h) (Or.inl ⟨by rfl, fun w' _ => by go_simp⟩) hH ?_
  simp only [Act.put, List.setIfInBounds_toArray, List.set_cons_zero, List.set_cons_succ]
  refine wpAnyH_take (i := 6) (oi := { dst := some 14, op := Op.move (Operand.tmp 0), type := 26, pos := "law.go:47", after := #[{ on := 5, ground := Ground.guard }], guard := some (5, true) }) (v := .slice a (L + 2) c) rfl (by kernel_rfl) (by kernel_rfl) (by kernel_rfl) (fun _ _ _ h => h) (Or.inl ⟨by rfl, fun w' _ => by go_simp⟩) hH ?_
  simp only [Act.put, List.setIfInBounds_toArray, List.set_cons_zero, List.set_cons_succ]
  refine wpAnyH_take (i := 7) (oi := { dst := some 15, op := Op.move (Operand.tmp 5), type := 3, pos := "law.go:47", after := #[{ on := 5, ground := Ground.guard }], guard := some (5, true) }) (v := .int .i64 (L : Int)) rfl (by kernel_rfl) (by kernel_rfl) (by kernel_rfl) (fun _ _ _ h => h) (Or.inl ⟨by rfl, fun w' _ => by go_simp⟩) hH ?_
  simp only [Act.put, List.setIfInBounds_toArray, List.set_cons_zero, List.set_cons_succ]
  refine wpAnyH_take (i := 8) (oi := { dst := some 16, op := Op.slice 26 (Operand.tmp 14) none (some (Operand.tmp 15)) none, type := 26, pos := "law.go:47", after := #[{ on := 6, ground := Ground.data }, { on := 7, ground := Ground.data }, { on := 5, ground := Ground.guard }], guard := some (5, true) }) (v := .slice a L c) rfl (by kernel_rfl) (by kernel_rfl) (by kernel_rfl) (fun _ _ _ h => h) (Or.inl ⟨by rfl, fun w' _ => by go_simp⟩) hH ?_
  simp only [Act.put, List.setIfInBounds_toArray, List.set_cons_zero, List.set_cons_succ]
  refine wpAnyH_take (i := 9) (oi := { dst := some 17, op := Op.move (Operand.tmp 1), type := 26, pos := "law.go:47", after := #[{ on := 5, ground := Ground.guard }], guard := some (5, true) }) (v := .slice av L capv) rfl (by kernel_rfl) (by kernel_rfl) (by kernel_rfl) (fun _ _ _ h => h) (Or.inl ⟨by rfl, fun w' _ => by go_simp⟩) hH ?_
  simp only [Act.put, List.setIfInBounds_toArray, List.set_cons_zero, List.set_cons_succ]
  refine wpAnyH_ready (rs := [10]) (by kernel_rfl) (by simp) ?_
  refine AllReadyH.cons (o := { dst := some 18, op := Op.call { callee := Callee.value (Operand.func 13), args := #[Operand.tmp 16, Operand.tmp 17], argTypes := #[26, 26] }, type := 4, pos := "law.go:47", after := #[{ on := 8, ground := Ground.data }, { on := 9, ground := Ground.data }, { on := 5, ground := Ground.chain }, { on := 5, ground := Ground.guard }], guard := some (5, true) }) rfl (fun K hK => ?_) AllReadyH.nil
  go_simp
  refine (AL.out es _ _ _ LE.out (T1.out _ hH).1 (T1.out _ hH).2).mono ?_
  rintro e wa ⟨rfl, bwa⟩
  refine hK.out _ _ (below_trans hH bwa) (fun hH => ?_)
  refine wpAnyH_take (i := 11) (oi := { dst := some 19, op := Op.pick (Operand.tmp 13) (Operand.tmp 18) (Operand.const (Value.bool false)), type := 4, pos := "law.go:47", after := #[{ on := 5, ground := Ground.data }, { on := 10, ground := Ground.data }], guard := none }) (v := .bool true) rfl (by kernel_rfl) (by kernel_rfl) (by kernel_rfl) (fun _ _ _ h => h) (Or.inl ⟨by rfl, fun w' _ => by go_simp⟩) hH ?_
  simp only [Act.put, List.setIfInBounds_toArray, List.set_cons_zero, List.set_cons_succ]
  refine wpAnyH_take (i := 12) (oi := { dst := some 20, op := Op.move (Operand.tmp 19), type := 4, pos := "law.go:47", after := #[{ on := 11, ground := Ground.data }, { on := 10, ground := Ground.chain }], guard := none }) (v := .bool true) rfl (by kernel_rfl) (by kernel_rfl) (by kernel_rfl) (fun _ _ _ h => h) (Or.inl ⟨by rfl, fun w' _ => by go_simp⟩) hH ?_
  simp only [Act.put, List.setIfInBounds_toArray, List.set_cons_zero, List.set_cons_succ]
  refine wpAnyH_take (i := 13) (oi := { dst := some 21, op := Op.move (Operand.tmp 0), type := 26, pos := "law.go:47", after := #[{ on := 12, ground := Ground.guard }], guard := some (12, true) }) (v := .slice a (L + 2) c) rfl (by kernel_rfl) (by kernel_rfl) (by kernel_rfl) (fun _ _ _ h => h) (Or.inl ⟨by rfl, fun w' _ => by go_simp⟩) hH ?_
  simp only [Act.put, List.setIfInBounds_toArray, List.set_cons_zero, List.set_cons_succ]
  refine wpAnyH_take (i := 14) (oi := { dst := some 22, op := Op.move (Operand.tmp 5), type := 3, pos := "law.go:47", after := #[{ on := 12, ground := Ground.guard }], guard := some (12, true) }) (v := .int .i64 (L : Int)) rfl (by kernel_rfl) (by kernel_rfl) (by kernel_rfl) (fun _ _ _ h => h) (Or.inl ⟨by rfl, fun w' _ => by go_simp⟩) hH ?_
  simp only [Act.put, List.setIfInBounds_toArray, List.set_cons_zero, List.set_cons_succ]
  refine wpAnyH_take (i := 15) (oi := { dst := some 23, op := Op.slice 26 (Operand.tmp 21) (some (Operand.tmp 22)) none none, type := 26, pos := "law.go:47", after := #[{ on := 13, ground := Ground.data }, { on := 14, ground := Ground.data }, { on := 12, ground := Ground.guard }], guard := some (12, true) }) (v := vlo) rfl (by kernel_rfl) (by kernel_rfl) (by kernel_rfl) (fun _ _ _ h => h) (Or.inl ⟨by rfl, fun w' _ => by go_simp⟩) hH ?_
  simp only [Act.put, List.setIfInBounds_toArray, List.set_cons_zero, List.set_cons_succ]
  refine wpAnyH_ready (rs := [16]) (by kernel_rfl) (by simp) ?_
  refine AllReadyH.cons (o := { dst := some 24, op := Op.call { callee := Callee.value (Operand.func 14), args := #[Operand.const (Value.int IntKind.i64 1)], argTypes := #[3] }, type := 41, pos := "law.go:47", after := #[{ on := 12, ground := Ground.chain }, { on := 12, ground := Ground.guard }], guard := some (12, true) }) rfl (fun K hK => ?_) AllReadyH.nil
  go_simp
  refine (M1.out _).mono ?_
  rintro e wb ⟨rfl, bwb⟩
  refine hK.out _ _ (below_trans hH bwb) (fun hH => ?_)
  refine wpAnyH_ready (rs := [17]) (by kernel_rfl) (by simp) ?_
  refine AllReadyH.cons (o := { dst := some 25, op := Op.call { callee := Callee.value (Operand.func 14), args := #[Operand.const (Value.int IntKind.i64 2)], argTypes := #[3] }, type := 41, pos := "law.go:47", after := #[{ on := 16, ground := Ground.chain }, { on := 12, ground := Ground.guard }], guard := some (12, true) }) rfl (fun K hK => ?_) AllReadyH.nil
  go_simp
  refine (M2.out _).mono ?_
  rintro e wd ⟨rfl, bwd⟩
  refine hK.out _ _ (below_trans hH bwd) (fun hH => ?_)
  refine wpAnyH_ready (rs := [18]) (by kernel_rfl) (by simp) ?_
  refine AllReadyH.cons (o := { dst := some 26, op := Op.buildSlice 26 2 #[(0, Operand.tmp 24), (1, Operand.tmp 25)], type := 26, pos := "law.go:47", after := #[{ on := 16, ground := Ground.data }, { on := 17, ground := Ground.data }, { on := 12, ground := Ground.guard }], guard := some (12, true) }) rfl (fun K hK => ?_) AllReadyH.nil
  go_simp
  refine hK.out _ _ (hH.alloc hH.size _) (fun hH => ?_)
  refine wpAnyH_ready (rs := [19]) (by kernel_rfl) (by simp) ?_
  refine AllReadyH.cons (o := { dst := some 27, op := Op.call { callee := Callee.value (Operand.func 13), args := #[Operand.tmp 23, Operand.tmp 26], argTypes := #[26, 26] }, type := 4, pos := "law.go:47", after := #[{ on := 15, ground := Ground.data }, { on := 18, ground := Ground.data }, { on := 17, ground := Ground.chain }, { on := 12, ground := Ground.guard }], guard := some (12, true) }) rfl (fun K hK => ?_) AllReadyH.nil
  go_simp
  refine (AL.out [mkE 1, mkE 2] _ _ _ (by simp) (T2.out _ hH) (RdE.two wd (mkE 1) (mkE 2))).mono ?_
  rintro e we ⟨rfl, bwe⟩
  refine hK.out _ _ (below_trans hH bwe) (fun hH => ?_)
  refine wpAnyH_take (i := 20) (oi := { dst := some 28, op := Op.pick (Operand.tmp 20) (Operand.tmp 27) (Operand.const (Value.bool false)), type := 4, pos := "law.go:47", after := #[{ on := 12, ground := Ground.data }, { on := 19, ground := Ground.data }], guard := none }) (v := .bool true) rfl (by kernel_rfl) (by kernel_rfl) (by kernel_rfl) (fun _ _ _ h => h) (Or.inl ⟨by rfl, fun w' _ => by go_simp⟩) hH ?_
  simp only [Act.put, List.setIfInBounds_toArray, List.set_cons_zero, List.set_cons_succ]
  refine wpAnyH_take (i := 21) (oi := { dst := some 4, op := Op.assign (Operand.tmp 28), type := 4, pos := "law.go:47", after := #[{ on := 20, ground := Ground.data }, { on := 19, ground := Ground.chain }, { on := 0, ground := Ground.phase }, { on := 1, ground := Ground.phase }, { on := 2, ground := Ground.phase }, { on := 3, ground := Ground.phase }, { on := 4, ground := Ground.phase }, { on := 5, ground := Ground.phase }, { on := 6, ground := Ground.phase }, { on := 7, ground := Ground.phase }, { on := 8, ground := Ground.phase }, { on := 9, ground := Ground.phase }, { on := 10, ground := Ground.phase }, { on := 11, ground := Ground.phase }, { on := 12, ground := Ground.phase }, { on := 13, ground := Ground.phase }, { on := 14, ground := Ground.phase }, { on := 15, ground := Ground.phase }, { on := 16, ground := Ground.phase }, { on := 17, ground := Ground.phase }, { on := 18, ground := Ground.phase }, { on := 19, ground := Ground.phase }, { on := 20, ground := Ground.phase }], guard := none }) (v := .bool true) rfl (by kernel_rfl) (by kernel_rfl) (by kernel_rfl) (fun _ _ _ h => h) (Or.inl ⟨by rfl, fun w' _ => by go_simp⟩) hH ?_
  simp only [Act.put, List.setIfInBounds_toArray, List.set_cons_zero, List.set_cons_succ]
  refine wpAnyH_done (by kernel_rfl) ?_ _
  have FF : Hid (Below w.heap.size w we) := hH
  clear hH hK
  go_wp2_with fail
  go_ret
  exact ⟨rfl, FF.out⟩
end Go.Proofs.YtacdnigeboeleaaDoor
