/-
  Ours: the walk of WaterfallMoves.
-/
import Derived.Test.YtplebplpachgiaaWatUndo
import Derived.Test.YtplebplpachgiaaWatRMv
import Derived.Test.YtplebplpachgiaaWatAlk
import Derived.Deep.CutRange
import Derived.Deep.RegionHeld
namespace Go.Proofs.Ytplebplpachgiaa
open Go.RowKit LedM WatM

/-- A payment's parts that lie in a box of the call's own. -/
def Bx (w : World) (P : List Value) (w' : World) : Prop := Blk w.heap.size 23 P w' ∧ Below w.heap.size w w'
theorem Bx.call {w w1 w2 : World} {P : List Value} (h : Bx w P w1) (b : Below w1.heap.size w1 w2) : Bx w P w2 := ⟨h.1.below b, below_trans h.2 b⟩
theorem Bx.drewN {w w1 : World} {P : List Value} (h : Bx w P w1) (n : Nat) : Bx w P (w1.drewN n) := ⟨h.1.drewN n, below_drewN h.2 n⟩
theorem Bx.new (w : World) (P : List Value) : Bx w P (w.alloc (.cells P.toArray 23)) := ⟨Blk.new _ P w, below_alloc w _⟩

set_option maxRecDepth 20000 in
set_option maxHeartbeats 1000000 in
theorem moves_any (f i p u r : Int) (w : World) : Calls Try.prog 5 #[.agg (bkL [f, i, p, u, r]).toArray] w fun e w' => e = .returned (.bool true) ∧ Below w.heap.size w w' := by
  have EN : Hid (∀ w', Calls Try.prog 9 #[.agg (bkL [f, i, p, u, r]).toArray] w' fun e w2 => ∃ v, e = .returned v ∧ RowE w'.heap.size w2 v (entsP f i p u r) ∧ Below w'.heap.size w' w2) := fun w' => entries_at f i p u r w'
  have UN : Hid (∀ w', Calls Try.prog 10 #[.agg (bkL [f, i, p, u, r]).toArray] w' fun e w2 => ∃ v, e = .returned v ∧ RowE w'.heap.size w2 v (undoP f i p u r) ∧ Below w'.heap.size w' w2) := fun w' => undo_at f i p u r w'
  have EM : Hid (∀ w', Calls Try.prog 13 #[.agg (bkL [f, i, p, u, r]).toArray] w' fun e w2 => ∃ v, e = .returned v ∧ RowE w'.heap.size w2 v (entsP f i p u r) ∧ Below w'.heap.size w' w2) := fun w' => rentries_at f i p u r w'
  have UM : Hid (∀ w', Calls Try.prog 14 #[.agg (bkL [f, i, p, u, r]).toArray] w' fun e w2 => ∃ v, e = .returned v ∧ RowE w'.heap.size w2 v (undoP f i p u r) ∧ Below w'.heap.size w' w2) := fun w' => rundo_at f i p u r w'
  have AE : Hid (∀ w' va vb, RdE w' va (entsP f i p u r) → RdE w' vb (entsP f i p u r) → Calls Try.prog 11 #[va, vb] w' fun e w2 => e = .returned (.bool true) ∧ Below w'.heap.size w' w2) := fun w' va vb h1 h2 => (alike9_yes _ va vb w' (by have := entsP_len f i p u r; omega) h1 h2).mono fun e w2 ⟨a, n, b⟩ => ⟨a, by rw [b]; exact below_drewN (Below.refl _ _) n⟩
  have AU : Hid (∀ w' va vb, RdE w' va (undoP f i p u r) → RdE w' vb (undoP f i p u r) → Calls Try.prog 11 #[va, vb] w' fun e w2 => e = .returned (.bool true) ∧ Below w'.heap.size w' w2) := fun w' va vb h1 h2 => (alike9_yes _ va vb w' (by have := entsP_len f i p u r; unfold undoP; rw [List.length_map]; omega) h1 h2).mono fun e w2 ⟨a, n, b⟩ => ⟨a, by rw [b]; exact below_drewN (Below.refl _ _) n⟩
  have BX : Hid (Bx w (bkL [f, i, p, u, r]) (w.alloc (.cells (bkL [f, i, p, u, r]).toArray 23))) := Bx.new w _
  have IP : Hid ((Try.prog.info? 23).map (·.size) = some (bkL [f, i, p, u, r]).length) := infoP
  generalize entsP f i p u r = es at *
  generalize undoP f i p u r = us at *
  generalize bkL [f, i, p, u, r] = P at *
  have hu := Try.underlying23
  go_enter Try.func5, Try.ntmps5
  go_wp2_with fail
  generalize w.alloc (.cells P.toArray 23) = w0 at *
  refine wp_region_held_drew (S := fun w' => Bx w P w') (by kernel_rfl) (BX.out.drewN 1) (fun hH => ?_)
  refine' wpAnyH_take (i := 0) (v := _) rfl (by kernel_rfl) (by kernel_rfl) (by kernel_rfl) (fun _ _ _ h => h) (yieldsIf_load_mid (by rfl) _ _ rfl _ _ rfl P _ (fun w' h => h.1.all) hu rfl IP.out) hH ?_
  simp only [Act.put]
  refine' wpAnyH_take (i := 2) (v := _) rfl (by kernel_rfl) (by kernel_rfl) (by kernel_rfl) (fun _ _ _ h => h) (yieldsIf_load_mid (by rfl) _ _ rfl _ _ rfl P _ (fun w' h => h.1.all) hu rfl IP.out) hH ?_
  simp only [Act.put]
  refine wpAnyH_ready (rs := [1]) (by kernel_rfl) (by simp) ?_
  refine AllReadyH.cons rfl (fun K hK => ?_) AllReadyH.nil
  go_simp
  refine (EN.out _).mono ?_
  rintro e wa ⟨va, rfl, ra, ba⟩
  have RA := ra.rd
  refine hK.out _ _ (hH.call ba) (fun hH => ?_)
  refine wpAnyH_ready (rs := [3]) (by kernel_rfl) (by simp) ?_
  refine AllReadyH.cons rfl (fun K hK => ?_) AllReadyH.nil
  go_simp
  refine (EM.out _).mono ?_
  rintro e wb ⟨vb, rfl, rb, bb⟩
  have RB := rb.rd
  have RA := RA.later bb
  refine hK.out _ _ (hH.call bb) (fun hH => ?_)
  refine wpAnyH_ready (rs := [4]) (by kernel_rfl) (by simp) ?_
  refine AllReadyH.cons rfl (fun K hK => ?_) AllReadyH.nil
  go_simp
  refine (AE.out _ _ _ RA RB).mono ?_
  rintro e wc ⟨rfl, bc⟩
  refine hK.out _ _ (hH.call bc) (fun hH => ?_)
  refine wpAnyH_take (i := 5) (v := .bool true) rfl (by kernel_rfl) (by kernel_rfl) (by kernel_rfl) (fun _ _ _ h => h) (Or.inl ⟨by rfl, fun w' _ => by go_simp⟩) hH ?_
  simp only [Act.put]
  refine' wpAnyH_take (i := 6) (v := _) rfl (by kernel_rfl) (by kernel_rfl) (by kernel_rfl) (fun _ _ _ h => h) (yieldsIf_load_mid (by rfl) _ _ rfl _ _ rfl P _ (fun w' h => h.1.all) hu rfl IP.out) hH ?_
  simp only [Act.put]
  refine' wpAnyH_take (i := 8) (v := _) rfl (by kernel_rfl) (by kernel_rfl) (by kernel_rfl) (fun _ _ _ h => h) (yieldsIf_load_mid (by rfl) _ _ rfl _ _ rfl P _ (fun w' h => h.1.all) hu rfl IP.out) hH ?_
  simp only [Act.put]
  refine wpAnyH_ready (rs := [7]) (by kernel_rfl) (by simp) ?_
  refine AllReadyH.cons rfl (fun K hK => ?_) AllReadyH.nil
  go_simp
  refine (UN.out _).mono ?_
  rintro e wd ⟨vd, rfl, rd, bd⟩
  have RD := rd.rd
  refine hK.out _ _ (hH.call bd) (fun hH => ?_)
  refine wpAnyH_ready (rs := [9]) (by kernel_rfl) (by simp) ?_
  refine AllReadyH.cons rfl (fun K hK => ?_) AllReadyH.nil
  go_simp
  refine (UM.out _).mono ?_
  rintro e we ⟨ve, rfl, re, be⟩
  have RE := re.rd
  have RD := RD.later be
  refine hK.out _ _ (hH.call be) (fun hH => ?_)
  refine wpAnyH_ready (rs := [10]) (by kernel_rfl) (by simp) ?_
  refine AllReadyH.cons rfl (fun K hK => ?_) AllReadyH.nil
  go_simp
  refine (AU.out _ _ _ RD RE).mono ?_
  rintro e wf ⟨rfl, bf⟩
  refine hK.out _ _ (hH.call bf) (fun hH => ?_)
  refine wpAnyH_take (i := 11) (v := .bool true) rfl (by kernel_rfl) (by kernel_rfl) (by kernel_rfl) (fun _ _ _ h => h) (Or.inl ⟨by rfl, fun w' _ => by go_simp⟩) hH ?_
  simp only [Act.put]
  refine wpAnyH_take (i := 12) (v := .bool true) rfl (by kernel_rfl) (by kernel_rfl) (by kernel_rfl) (fun _ _ _ h => h) (Or.inl ⟨by rfl, fun w' _ => by go_simp⟩) hH ?_
  simp only [Act.put, List.getElem_toArray, List.getElem_cons_succ, List.getElem_cons_zero]
  refine wpAnyH_done (by kernel_rfl) ?_ _
  have KZ : Hid (Below w.heap.size w wf) := hH.2
  clear hH hK
  go_wp2_with fail
  go_ret
  exact ⟨rfl, KZ.out⟩
end Go.Proofs.Ytplebplpachgiaa
