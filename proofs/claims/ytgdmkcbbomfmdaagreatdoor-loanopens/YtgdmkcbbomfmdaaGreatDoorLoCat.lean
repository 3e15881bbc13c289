/-
  Ours: the deferred closure of attempt, in a frame that panics and in one that returns (gen_locat.py: THE SEAT's OWN NUMBERS).
-/
import Derived.Test.YtgdmkcbbomfmdaaGreatDoorLoGra
import Derived.LoopTactic
import Derived.Deep.RegionHeld3
namespace Go.Proofs.YtgdmkcbbomfmdaaGreatDoor
open Go.RowKit LedM CoM LoM
theorem set_same {α : Type} {l : List α} {j : Nat} {x : α} (h : l[j]? = some x) : l.set j x = l := by
  apply List.ext_getElem?
  intro i
  rw [List.getElem?_set]
  by_cases e : j = i
  · subst e
    rw [if_pos rfl, if_pos (List.getElem?_eq_some_iff.1 h).1, h]
  · rw [if_neg e]
theorem set_new {α : Type} {l : List α} {j : Nat} {x y : α} (h : l[j]? = some x) : (l.set j y)[j]? = some y := by
  rw [List.getElem?_set, if_pos rfl, if_pos (List.getElem?_eq_some_iff.1 h).1]
theorem set_at {α : Type} {l : List α} {i j : Nat} {x y z : α} (h : l[i]? = some x) (_ : l[j]? = some y) (ne : j ≠ i) : (l.set j z)[i]? = some x := by
  rw [List.getElem?_set, if_neg ne, h]
theorem catch_idle (LB AB : Nat) (w : World) :
    CallsD Tryz.prog 22 #[.pointer (some ⟨LB, 0, none⟩), .pointer (some ⟨AB, 0, none⟩)] .returning w fun e u' w' => e = .returned (.tuple #[]) ∧ u' = .returning ∧ w' = w := by
  refine callsD_of_wpS Tryz.func22 rfl fun c₀ cs hu => ?_
  apply wpS_seq
  apply wpS_region
  simp [wpOpsS, go_sem, recoverD, hu, Tryz.ntmps22, Exit.thenS]
  refine wpS_of_wp ?_
  show Code.wp _ _ _ { tmps := #[.pointer (some ⟨LB, 0, none⟩), .pointer (some ⟨AB, 0, none⟩), .nilIface, .nilIface, undef, undef, undef, undef, undef, undef], defers := [] } _
  go_wp2_with fail
  cases c₀
  simp_all [bodyPostS, results, Tryz.results22]
set_option maxRecDepth 20000 in
set_option maxHeartbeats 4000000 in
theorem catch_up (L : Lo) (k : Int) (LB AB i j : Nat) (bs : List (Nat × TypeId × List Value)) (w0 w : World) (old : List Value) (older : List PanicEntry) (hp : L.pl.oneCell' = true) (h : KD w0 bs w)
    (hi : bs[i]? = some (LB, 37, lnL L)) (hj : bs[j]? = some (AB, 41, old)) (ho : old.length = 53) :
    CallsD Tryz.prog 22 #[.pointer (some ⟨LB, 0, none⟩), .pointer (some ⟨AB, 0, none⟩)] (.panicking ({ v := .iface 39 (.int .i64 k), recovered := false } :: older)) w fun e u' w' =>
      e = .returned (.tuple #[]) ∧ u' = .panicking ({ v := .iface 39 (.int .i64 k), recovered := true } :: older) ∧ KD w0 (bs.set j (AB, 41, ouL L [] (.slice none 0 0) k)) w' := by
  have hne : j ≠ i := fun e => by
    subst e
    rw [hi] at hj
    injection hj with hj
    injection hj with _ hj
    injection hj with hj _
    revert hj
    decide
  have BO := build_ou L k
  have hi2 := sizeLn L
  have SY := sizeOu L [] (.slice none 0 0) k
  have OY := ouL_one (L := L) (pa := []) (nt := .slice none 0 0) (k := k) hp rfl
  have LY : (ouL L [] (.slice none 0 0) k).length = 53 := rfl
  generalize lnL L = X at *
  generalize ouL L [] (.slice none 0 0) k = Y at *
  refine callsD_of_wpS Tryz.func22 rfl fun c₀ cs hu => ?_
  apply wpS_seq
  apply wpS_region
  simp [wpOpsS, go_sem, recoverD, hu, Tryz.ntmps22, Exit.thenS]
  refine wpS_of_wp ?_
  show Code.wp _ _ _ { tmps := #[.pointer (some ⟨LB, 0, none⟩), .pointer (some ⟨AB, 0, none⟩), (.iface 39 (.int .i64 k)), (.iface 39 (.int .i64 k)), undef, undef, undef, undef, undef, undef], defers := [] } _
  go_wp2_with fail
  have hu2 := Tryz.underlying37
  refine wp_region_held_drew (S := fun w' => ∃ old, old.length = 53 ∧ KD w0 (bs.set j (AB, 41, old)) w') (by kernel_rfl) ⟨old, ho, KD.drew (by rw [set_same hj]; exact h)⟩ (fun hH => ?_)
  refine wpAnyH_take (i := 0) (oi := { dst := some 6, op := Op.load 37 (Operand.tmp 0), type := 37, pos := "draft.go:28", after := #[], guard := none }) (v := .agg (X).toArray) rfl (by kernel_rfl) (by kernel_rfl) (by kernel_rfl) (fun _ _ _ h => h) (yieldsIf_load_mid (by rfl) _ _ rfl LB 0 rfl (X) _ (fun w' h => (by obtain ⟨o', _, h⟩ := h; exact Blk.all (h.at i (set_at hi hj hne)))) hu2 rfl hi2) hH ?_
  try simp only [Act.put, List.setIfInBounds_toArray, List.set_cons_zero, List.set_cons_succ]
  refine wpAnyH_take (i := 1) (oi := { dst := some 7, op := Op.move (Operand.tmp 2), type := 20, pos := "draft.go:28", after := #[], guard := none }) (v := .iface 39 (.int .i64 k)) rfl (by kernel_rfl) (by kernel_rfl) (by kernel_rfl) (fun _ _ _ h => h) (Or.inl ⟨by rfl, fun w' h => by go_simp⟩) hH ?_
  try simp only [Act.put, List.setIfInBounds_toArray, List.set_cons_zero, List.set_cons_succ]
  refine wpAnyH_ready (rs := [2]) (by kernel_rfl) (by simp) ?_
  refine AllReadyH.cons (o := { dst := some 8, op := Op.call { callee := Callee.value (Operand.func 23), args := #[Operand.tmp 7], argTypes := #[20] }, type := 39, pos := "draft.go:28", after := #[{ on := 1, ground := Ground.data }], guard := none }) rfl (fun K hK => ?_) AllReadyH.nil
  go_simp
  refine (reason_at k _).mono ?_
  rintro e x1 ⟨rfl, rfl⟩
  refine hK.out _ _ hH (fun hH => ?_)
  refine wpAnyH_take (i := 3) (oi := { dst := some 9, op := Op.build 41 #[(0, Operand.tmp 6), (3, Operand.tmp 8)], type := 41, pos := "draft.go:28", after := #[{ on := 0, ground := Ground.data }, { on := 2, ground := Ground.data }], guard := none }) (v := .agg Y.toArray) rfl (by kernel_rfl) (by kernel_rfl) (by kernel_rfl) (fun _ _ _ h => h) (LoK.yieldsIf_build2 (by rfl) _ 0 3 _ _ rfl _ _ _ rfl rfl BO) hH ?_
  try simp only [Act.put, List.setIfInBounds_toArray, List.set_cons_zero, List.set_cons_succ]
  refine wpAnyH_ready (rs := [4]) (by kernel_rfl) (by simp) ?_
  refine AllReadyH.cons (o := { dst := none, op := Op.store 41 (Operand.tmp 1) (Operand.tmp 9), type := 0, pos := "draft.go:28", after := #[{ on := 3, ground := Ground.data }, { on := 2, ground := Ground.chain }, { on := 0, ground := Ground.phase }, { on := 1, ground := Ground.phase }, { on := 2, ground := Ground.phase }, { on := 3, ground := Ground.phase }], guard := none }) rfl (fun K hK => ?_) AllReadyH.nil
  obtain ⟨o', ho', hC⟩ := hH
  have hBo : Blk AB 41 o' _ := hC.at (q := (AB, 41, o')) j (set_new hj)
  refine LoK.op_putC (zs := o') Y (by rw [ho', LY]) SY OY rfl _ _ rfl AB rfl rfl hBo ?_
  intro w9 b9 g9
  have hZ : KD w0 (bs.set j (AB, 41, Y)) w9 := by
    have := hC.store (q := (AB, 41, o')) j (set_new hj) b9 g9
    rw [List.set_set] at this
    exact this
  refine hK.out _ _ ⟨_, LY, hZ⟩ (fun hH => ?_)
  simp only [Act.put]
  refine wpAnyH_done (by kernel_rfl) ?_ _
  exact ⟨rfl, _, rfl, _, results_none rfl _ _ _, rfl, rfl, hZ⟩
end Go.Proofs.YtgdmkcbbomfmdaaGreatDoor
