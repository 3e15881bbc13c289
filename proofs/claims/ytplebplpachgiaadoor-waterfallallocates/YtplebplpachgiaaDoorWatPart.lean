/-
  Ours: the document's part.
-/
import Derived.Test.YtplebplpachgiaaDoorWatTurn
import Derived.Test.YtplebplpachgiaaDoorWatKB
import Derived.Deep.CutRange
import Derived.Deep.RegionHeld
namespace Go.Proofs.YtplebplpachgiaaDoor
open Go.RowKit LedM WatM

namespace WatM
/-- The part at a place; at the third what is left. -/
def prt (n : Nat) (f i p a : Int) (pl : Nat) : Int := if pl = 3 then lf n f i p a 3 else pd n f i p a pl
theorem lf_none {n : Nat} {f i p a : Int} (hn : n < 6) (hf : 0 ≤ f) (hi : 0 ≤ i) (hp : 0 ≤ p) (bf : f ≤ 9223372036854775807) (bi : i ≤ 9223372036854775807) (bp : p ≤ 9223372036854775807) (k : Nat) (h : lf n f i p a k = 0) : ∀ m, k + m ≤ 3 → lf n f i p a (k + m) = 0
  | 0, _ => h
  | m + 1, hm => by
    have ih := lf_none hn hf hi hp bf bi bp k h m (by omega)
    have d := dbA_ok (j := k + m) hn (by omega) hf hi hp bf bi bp
    rw [← Nat.add_assoc, lf_succ, pd_min, ih]
    omega
theorem prt_none {n : Nat} {f i p a : Int} (hn : n < 6) (hf : 0 ≤ f) (hi : 0 ≤ i) (hp : 0 ≤ p) (bf : f ≤ 9223372036854775807) (bi : i ≤ 9223372036854775807) (bp : p ≤ 9223372036854775807) {k pl : Nat} (hk : k < pl) (hpl : pl ≤ 3) (h : lf n f i p a k ≤ dbA n f i p k) : prt n f i p a pl = 0 := by
  have e : lf n f i p a (k + 1) = 0 := by rw [lf_succ, pd_min]; omega
  have e2 := lf_none hn hf hi hp bf bi bp (k + 1) e (pl - (k + 1)) (by omega)
  rw [show k + 1 + (pl - (k + 1)) = pl from by omega] at e2
  unfold prt
  split
  · rename_i h3; rw [h3] at e2; exact e2
  · have d := dbA_ok (j := pl) hn (by omega) hf hi hp bf bi bp
    rw [pd_min, e2]; omega
end WatM

set_option maxRecDepth 20000 in
set_option maxHeartbeats 2000000 in
theorem part_at (n : Nat) (f i p a : Int) (pl : Nat) (w : World) (hn : n < 6) (hf0 : 0 ≤ f) (hi0 : 0 ≤ i) (hp0 : 0 ≤ p) (ha1 : 1 ≤ a) (hf : f ≤ 9223372036854775807) (hi : i ≤ 9223372036854775807) (hp : p ≤ 9223372036854775807) (ha : a ≤ 9223372036854775807) (hpl : pl ≤ 3) :
    Calls Tryd.prog 14 #[.int .i64 (n : Int), .agg (bkL [f, i, p]).toArray, .int .i64 a, .int .i64 (pl : Int)] w fun e w' => e = .returned (.int .i64 (prt n f i p a pl)) ∧ Below w.heap.size w w' := by
  have TUA : Hid (∀ (j : Nat), j < 3 → ∀ w', Calls Tryd.prog 13 #[.int .i64 (n : Int), .int .i64 (j : Int)] w' fun e w2 => e = .returned (.int .i64 (kd n j : Int)) ∧ w2 = w') := fun j hj w' => turn_in n j w' hn hj
  have WAA : Hid (∀ (j : Nat), j < 3 → ∀ w', Calls Tryd.prog 15 #[.agg (bkL [f, i, p]).toArray, .int .i64 (kd n j : Int)] w' fun e w2 => e = .returned (.int .i64 (dbA n f i p j)) ∧ Below w'.heap.size w' w2) := fun j hj w' => by
    have := wants_at (kd n j) f i p w' (kd_all n hn j hj)
    rwa [ptK_db hn hj] at this
  have DA : Hid (∀ j, j < 3 → 0 ≤ dbA n f i p j ∧ dbA n f i p j ≤ 9223372036854775807) := fun j hj => dbA_ok hn hj hf0 hi0 hp0 hf hi hp
  have LF : Hid (∀ j, j ≤ 3 → 0 ≤ lf n f i p a j ∧ lf n f i p a j ≤ 9223372036854775807) := lf_ok hn hf0 hi0 hp0 hf hi hp ha1 ha
  have LS : Hid (∀ j, dbA n f i p j < lf n f i p a j → lf n f i p a (j + 1) = lf n f i p a j - dbA n f i p j) := fun j h => by rw [lf_succ, pd_min]; omega
  have PN : Hid (∀ k, k < pl → 0 ≤ lf n f i p a k → lf n f i p a k ≤ dbA n f i p k → prt n f i p a pl = 0) := fun k hk _ h => prt_none hn hf0 hi0 hp0 hf hi hp hk hpl h
  have PV : Hid (prt n f i p a pl = if pl = 3 then lf n f i p a 3 else min (dbA n f i p pl) (lf n f i p a pl)) := by show _ = _; unfold prt; rw [pd_min]
  have K0 : Hid (KB w [(w.heap.size, 23, bkL [f, i, p])] (w.alloc (.cells (bkL [f, i, p]).toArray 23))) := (KB.start w).new _ _
  have F0 : Hid (a = lf n f i p a 0) := rfl
  have hn64 : (n : Int) < 6 := by omega
  generalize prt n f i p a pl = PR at *
  go_enter Tryd.func14, Tryd.ntmps14
  go_wp2_with fail
  go_loopw [9, 10, 11] (fun vl vk _ wr => ∃ k : Nat, vk = .int .i64 (k : Int) ∧ k ≤ pl ∧ vl = .int .i64 (lf n f i p a k) ∧ KB w [(w.heap.size, 23, bkL [f, i, p])] wr) (fun _ vk _ _ => pl - (intOf vk).toNat)
  case atStart => exact ⟨0, rfl, by omega, by rw [← F0.out], K0.out⟩
  case round =>
    clear K0 F0
    obtain ⟨k, rfl, hk, rfl, kb⟩ := hrel
    have KR : Hid (KB w [(w.heap.size, 23, bkL [f, i, p])] wr) := kb
    clear kb
    by_cases hlt : (k : Int) < (pl : Int)
    · have hk3 : k < 3 := by omega
      have TU := TUA.out k hk3
      have TU : Hid (∀ w', _) := TU
      have WA := WAA.out k hk3
      have WA : Hid (∀ w', _) := WA
      obtain ⟨d0, d1⟩ := DA.out k hk3
      obtain ⟨l0, l1⟩ := LF.out k (by omega)
      have ls := LS.out k
      have pn := PN.out k (by omega) l0
      have ls : Hid (_ → _) := ls
      have pn : Hid (_ → _) := pn
      generalize dbA n f i p k = dd at *
      generalize lf n f i p a k = ll at *
      generalize kd n k = m at *
      clear TUA WAA DA LF LS PN PV
      go_wp2_with fail
      refine wp_region_held_drew (S := fun w' => KB w [(w.heap.size, 23, bkL [f, i, p])] w') (by kernel_rfl) (KR.out.drewN 1) (fun hH => ?_)
      refine' wpAnyH_take (i := 0) (oi := { dst := some 18, op := Op.load 23 (Operand.tmp 5), type := 23, pos := "arrearsref9.go:67", after := #[], guard := none }) (v := _) rfl (by kernel_rfl) (by kernel_rfl) (by kernel_rfl) (fun _ _ _ h => h) (yieldsIf_load_mid (by rfl) _ _ rfl _ _ rfl (bkL [f, i, p]) _ (fun w' h => (h.at 0 rfl).all) Tryd.underlying23 rfl infoO) hH ?_
      simp only [Act.put, List.setIfInBounds_toArray, List.set_cons_zero, List.set_cons_succ]
      refine wpAnyH_take (i := 1) (oi := { dst := some 19, op := Op.move (Operand.tmp 0), type := 3, pos := "arrearsref9.go:67", after := #[], guard := none }) (v := .int .i64 (n : Int)) rfl (by kernel_rfl) (by kernel_rfl) (by kernel_rfl) (fun _ _ _ h => h) (Or.inl ⟨by rfl, fun w' hs => by go_simp⟩) hH ?_
      simp only [Act.put, List.setIfInBounds_toArray, List.set_cons_zero, List.set_cons_succ]
      refine wpAnyH_take (i := 2) (oi := { dst := some 20, op := Op.move (Operand.tmp 10), type := 3, pos := "arrearsref9.go:67", after := #[], guard := none }) (v := .int .i64 (k : Int)) rfl (by kernel_rfl) (by kernel_rfl) (by kernel_rfl) (fun _ _ _ h => h) (Or.inl ⟨by rfl, fun w' hs => by go_simp⟩) hH ?_
      simp only [Act.put, List.setIfInBounds_toArray, List.set_cons_zero, List.set_cons_succ]
      refine wpAnyH_ready (rs := [3]) (by kernel_rfl) (by simp) ?_
      refine AllReadyH.cons (o := { dst := some 21, op := Op.call { callee := Callee.value (Operand.func 13), args := #[Operand.tmp 19, Operand.tmp 20], argTypes := #[3, 3] }, type := 3, pos := "arrearsref9.go:67", after := #[{ on := 1, ground := Ground.data }, { on := 2, ground := Ground.data }], guard := none }) rfl (fun K hK => ?_) AllReadyH.nil
      go_simp
      refine (TU.out _).mono ?_
      rintro e wa ⟨rfl, rfl⟩
      refine hK.out _ _ hH (fun hH => ?_)
      refine wpAnyH_ready (rs := [4]) (by kernel_rfl) (by simp) ?_
      refine AllReadyH.cons (o := { dst := some 22, op := Op.call { callee := Callee.value (Operand.func 15), args := #[Operand.tmp 18, Operand.tmp 21], argTypes := #[23, 3] }, type := 2, pos := "arrearsref9.go:67", after := #[{ on := 0, ground := Ground.data }, { on := 3, ground := Ground.data }, { on := 3, ground := Ground.chain }], guard := none }) rfl (fun K hK => ?_) AllReadyH.nil
      go_simp
      refine (WA.out _).mono ?_
      rintro e wb ⟨rfl, bb⟩
      refine hK.out _ _ (hH.call bb) (fun hH => ?_)
      refine wpAnyH_take (i := 5) (oi := { dst := some 11, op := Op.assign (Operand.tmp 22), type := 2, pos := "arrearsref9.go:67", after := #[{ on := 4, ground := Ground.data }, { on := 4, ground := Ground.chain }, { on := 0, ground := Ground.phase }, { on := 1, ground := Ground.phase }, { on := 2, ground := Ground.phase }, { on := 3, ground := Ground.phase }, { on := 4, ground := Ground.phase }], guard := none }) (v := .int .i64 dd) rfl (by kernel_rfl) (by kernel_rfl) (by kernel_rfl) (fun _ _ _ h => h) (Or.inl ⟨by rfl, fun w' hs => by go_simp⟩) hH ?_
      simp only [Act.put, List.setIfInBounds_toArray, List.set_cons_zero, List.set_cons_succ]
      refine wpAnyH_done (by kernel_rfl) ?_ _
      have K5 : Hid (KB w [(w.heap.size, 23, bkL [f, i, p])] wb) := hH
      clear hH hK KR
      clear TU WA
      by_cases hd : ll ≤ dd
      · have e0 := pn.out hd
        subst e0
        go_wp2_with fail
        go_ret
        exact ⟨rfl, K5.out.bb⟩
      · have e1 := ls.out (by omega)
        have E1 : Hid (_ = _) := e1
        clear e1 pn ls
        go_wp2_with fail
        first
          | exact ⟨⟨k + 1, by go_num, by omega, by rw [E1.out], K5.out⟩, by simp [intOf]; omega⟩
          | (go_roundw
             case rel => exact ⟨k + 1, by go_num, by omega, by rw [E1.out], K5.out⟩
             case measure => simp [intOf]; omega)
    · obtain rfl : k = pl := by omega
      clear PN LS
      by_cases h3 : k = 3
      · subst h3
        have pv := PV.out
        rw [if_pos rfl] at pv
        subst pv
        clear PV TUA WAA DA
        go_wp2_with fail
        refine wp_region_held_drew (S := fun w' => KB w [(w.heap.size, 23, bkL [f, i, p])] w') (by kernel_rfl) (KR.out.drewN 1) (fun hH => ?_)
        refine wpAnyH_take (i := 0) (oi := { dst := some 29, op := Op.move (Operand.tmp 3), type := 3, pos := "arrearsref9.go:73", after := #[], guard := none }) (v := .int .i64 3) rfl (by kernel_rfl) (by kernel_rfl) (by kernel_rfl) (fun _ _ _ h => h) (Or.inl ⟨by rfl, fun w' hs => by go_simp⟩) hH ?_
        simp only [Act.put, List.setIfInBounds_toArray, List.set_cons_zero, List.set_cons_succ]
        refine wpAnyH_take (i := 1) (oi := { dst := some 30, op := Op.binOp BinOp.eql 3 (Operand.tmp 29) (Operand.const (Value.int IntKind.i64 3)) 3, type := 4, pos := "arrearsref9.go:73", after := #[{ on := 0, ground := Ground.data }], guard := none }) (v := .bool true) rfl (by kernel_rfl) (by kernel_rfl) (by kernel_rfl) (fun _ _ _ h => h) (Or.inl ⟨by rfl, fun w' hs => by go_simp⟩) hH ?_
        simp only [Act.put, List.setIfInBounds_toArray, List.set_cons_zero, List.set_cons_succ]
        refine wpAnyH_take (i := 2) (oi := { dst := some 31, op := Op.move (Operand.tmp 30), type := 4, pos := "arrearsref9.go:73", after := #[{ on := 1, ground := Ground.data }], guard := none }) (v := .bool true) rfl (by kernel_rfl) (by kernel_rfl) (by kernel_rfl) (fun _ _ _ h => h) (Or.inl ⟨by rfl, fun w' hs => by go_simp⟩) hH ?_
        simp only [Act.put, List.setIfInBounds_toArray, List.set_cons_zero, List.set_cons_succ]
        refine wpAnyH_take (i := 3) (oi := { dst := some 32, op := Op.move (Operand.tmp 9), type := 2, pos := "arrearsref9.go:73", after := #[{ on := 2, ground := Ground.guard }], guard := some (2, false) }) (v := undef) rfl (by kernel_rfl) (by kernel_rfl) (by kernel_rfl) (fun _ _ _ h => h) (Or.inr ⟨by rfl, rfl⟩) hH ?_
        simp only [Act.put, List.setIfInBounds_toArray, List.set_cons_zero, List.set_cons_succ]
        refine wpAnyH_take (i := 4) (oi := { dst := some 33, op := Op.load 23 (Operand.tmp 5), type := 23, pos := "arrearsref9.go:73", after := #[{ on := 2, ground := Ground.guard }], guard := some (2, false) }) (v := undef) rfl (by kernel_rfl) (by kernel_rfl) (by kernel_rfl) (fun _ _ _ h => h) (Or.inr ⟨by rfl, rfl⟩) hH ?_
        simp only [Act.put, List.setIfInBounds_toArray, List.set_cons_zero, List.set_cons_succ]
        refine wpAnyH_take (i := 5) (oi := { dst := some 34, op := Op.move (Operand.tmp 0), type := 3, pos := "arrearsref9.go:73", after := #[{ on := 2, ground := Ground.guard }], guard := some (2, false) }) (v := undef) rfl (by kernel_rfl) (by kernel_rfl) (by kernel_rfl) (fun _ _ _ h => h) (Or.inr ⟨by rfl, rfl⟩) hH ?_
        simp only [Act.put, List.setIfInBounds_toArray, List.set_cons_zero, List.set_cons_succ]
        refine wpAnyH_take (i := 6) (oi := { dst := some 35, op := Op.move (Operand.tmp 3), type := 3, pos := "arrearsref9.go:73", after := #[{ on := 2, ground := Ground.guard }], guard := some (2, false) }) (v := undef) rfl (by kernel_rfl) (by kernel_rfl) (by kernel_rfl) (fun _ _ _ h => h) (Or.inr ⟨by rfl, rfl⟩) hH ?_
        simp only [Act.put, List.setIfInBounds_toArray, List.set_cons_zero, List.set_cons_succ]
        refine wpAnyH_take (i := 7) (oi := { dst := some 36, op := Op.call { callee := Callee.value (Operand.func 13), args := #[Operand.tmp 34, Operand.tmp 35], argTypes := #[3, 3] }, type := 3, pos := "arrearsref9.go:73", after := #[{ on := 5, ground := Ground.data }, { on := 6, ground := Ground.data }, { on := 2, ground := Ground.chain }, { on := 2, ground := Ground.guard }], guard := some (2, false) }) (v := undef) rfl (by kernel_rfl) (by kernel_rfl) (by kernel_rfl) (fun _ _ _ h => h) (Or.inr ⟨by rfl, rfl⟩) hH ?_
        simp only [Act.put, List.setIfInBounds_toArray, List.set_cons_zero, List.set_cons_succ]
        refine wpAnyH_take (i := 8) (oi := { dst := some 37, op := Op.call { callee := Callee.value (Operand.func 15), args := #[Operand.tmp 33, Operand.tmp 36], argTypes := #[23, 3] }, type := 2, pos := "arrearsref9.go:73", after := #[{ on := 4, ground := Ground.data }, { on := 7, ground := Ground.data }, { on := 7, ground := Ground.chain }, { on := 2, ground := Ground.guard }], guard := some (2, false) }) (v := undef) rfl (by kernel_rfl) (by kernel_rfl) (by kernel_rfl) (fun _ _ _ h => h) (Or.inr ⟨by rfl, rfl⟩) hH ?_
        simp only [Act.put, List.setIfInBounds_toArray, List.set_cons_zero, List.set_cons_succ]
        refine wpAnyH_take (i := 9) (oi := { dst := some 38, op := Op.binOp BinOp.lss 2 (Operand.tmp 32) (Operand.tmp 37) 2, type := 4, pos := "arrearsref9.go:73", after := #[{ on := 3, ground := Ground.data }, { on := 8, ground := Ground.data }, { on := 2, ground := Ground.guard }], guard := some (2, false) }) (v := undef) rfl (by kernel_rfl) (by kernel_rfl) (by kernel_rfl) (fun _ _ _ h => h) (Or.inr ⟨by rfl, rfl⟩) hH ?_
        simp only [Act.put, List.setIfInBounds_toArray, List.set_cons_zero, List.set_cons_succ]
        refine wpAnyH_take (i := 10) (oi := { dst := some 39, op := Op.pick (Operand.tmp 31) (Operand.const (Value.bool true)) (Operand.tmp 38), type := 4, pos := "arrearsref9.go:73", after := #[{ on := 2, ground := Ground.data }, { on := 9, ground := Ground.data }], guard := none }) (v := .bool true) rfl (by kernel_rfl) (by kernel_rfl) (by kernel_rfl) (fun _ _ _ h => h) (Or.inl ⟨by rfl, fun w' hs => by go_simp⟩) hH ?_
        simp only [Act.put, List.setIfInBounds_toArray, List.set_cons_zero, List.set_cons_succ]
        refine wpAnyH_done (by kernel_rfl) ?_ _
        have K5 : Hid (KB w [(w.heap.size, 23, bkL [f, i, p])] _) := hH
        clear hH KR
        go_wp2_with fail
        go_ret
        exact ⟨rfl, K5.out.bb⟩
      · have hk3 : k < 3 := by omega
        have pv := PV.out
        rw [if_neg h3] at pv
        have PVX : Hid (_ = _) := pv
        have TU := TUA.out k hk3
        have TU : Hid (∀ w', _) := TU
        have WA := WAA.out k hk3
        have WA : Hid (∀ w', _) := WA
        obtain ⟨d0, d1⟩ := DA.out k hk3
        obtain ⟨l0, l1⟩ := LF.out k (by omega)
        generalize dbA n f i p k = dd at *
        generalize lf n f i p a k = ll at *
        generalize kd n k = m at *
        have p3 : ((k : Int) == 3) = false := by simp; omega
        clear TUA WAA DA LF PV pv
        obtain ⟨lt, hlt⟩ : ∃ lt, decide (ll < dd) = lt := ⟨_, rfl⟩
        go_wp2_with fail
        refine wp_region_held_drew (S := fun w' => KB w [(w.heap.size, 23, bkL [f, i, p])] w') (by kernel_rfl) (KR.out.drewN 1) (fun hH => ?_)
        refine wpAnyH_take (i := 0) (oi := { dst := some 29, op := Op.move (Operand.tmp 3), type := 3, pos := "arrearsref9.go:73", after := #[], guard := none }) (v := .int .i64 (k : Int)) rfl (by kernel_rfl) (by kernel_rfl) (by kernel_rfl) (fun _ _ _ h => h) (Or.inl ⟨by rfl, fun w' hs => by go_simp⟩) hH ?_
        simp only [Act.put, List.setIfInBounds_toArray, List.set_cons_zero, List.set_cons_succ]
        refine wpAnyH_take (i := 1) (oi := { dst := some 30, op := Op.binOp BinOp.eql 3 (Operand.tmp 29) (Operand.const (Value.int IntKind.i64 3)) 3, type := 4, pos := "arrearsref9.go:73", after := #[{ on := 0, ground := Ground.data }], guard := none }) (v := .bool false) rfl (by kernel_rfl) (by kernel_rfl) (by kernel_rfl) (fun _ _ _ h => h) (Or.inl ⟨by rfl, fun w' hs => by go_simp⟩) hH ?_
        simp only [Act.put, List.setIfInBounds_toArray, List.set_cons_zero, List.set_cons_succ]
        refine wpAnyH_take (i := 2) (oi := { dst := some 31, op := Op.move (Operand.tmp 30), type := 4, pos := "arrearsref9.go:73", after := #[{ on := 1, ground := Ground.data }], guard := none }) (v := .bool false) rfl (by kernel_rfl) (by kernel_rfl) (by kernel_rfl) (fun _ _ _ h => h) (Or.inl ⟨by rfl, fun w' hs => by go_simp⟩) hH ?_
        simp only [Act.put, List.setIfInBounds_toArray, List.set_cons_zero, List.set_cons_succ]
        refine wpAnyH_take (i := 3) (oi := { dst := some 32, op := Op.move (Operand.tmp 9), type := 2, pos := "arrearsref9.go:73", after := #[{ on := 2, ground := Ground.guard }], guard := some (2, false) }) (v := .int .i64 ll) rfl (by kernel_rfl) (by kernel_rfl) (by kernel_rfl) (fun _ _ _ h => h) (Or.inl ⟨by rfl, fun w' hs => by go_simp⟩) hH ?_
        simp only [Act.put, List.setIfInBounds_toArray, List.set_cons_zero, List.set_cons_succ]
        refine' wpAnyH_take (i := 4) (oi := { dst := some 33, op := Op.load 23 (Operand.tmp 5), type := 23, pos := "arrearsref9.go:73", after := #[{ on := 2, ground := Ground.guard }], guard := some (2, false) }) (v := _) rfl (by kernel_rfl) (by kernel_rfl) (by kernel_rfl) (fun _ _ _ h => h) (yieldsIf_load_mid (by rfl) _ _ rfl _ _ rfl (bkL [f, i, p]) _ (fun w' h => (h.at 0 rfl).all) Tryd.underlying23 rfl infoO) hH ?_
        simp only [Act.put, List.setIfInBounds_toArray, List.set_cons_zero, List.set_cons_succ]
        refine wpAnyH_take (i := 5) (oi := { dst := some 34, op := Op.move (Operand.tmp 0), type := 3, pos := "arrearsref9.go:73", after := #[{ on := 2, ground := Ground.guard }], guard := some (2, false) }) (v := .int .i64 (n : Int)) rfl (by kernel_rfl) (by kernel_rfl) (by kernel_rfl) (fun _ _ _ h => h) (Or.inl ⟨by rfl, fun w' hs => by go_simp⟩) hH ?_
        simp only [Act.put, List.setIfInBounds_toArray, List.set_cons_zero, List.set_cons_succ]
        refine wpAnyH_take (i := 6) (oi := { dst := some 35, op := Op.move (Operand.tmp 3), type := 3, pos := "arrearsref9.go:73", after := #[{ on := 2, ground := Ground.guard }], guard := some (2, false) }) (v := .int .i64 (k : Int)) rfl (by kernel_rfl) (by kernel_rfl) (by kernel_rfl) (fun _ _ _ h => h) (Or.inl ⟨by rfl, fun w' hs => by go_simp⟩) hH ?_
        simp only [Act.put, List.setIfInBounds_toArray, List.set_cons_zero, List.set_cons_succ]
        refine wpAnyH_ready (rs := [7]) (by kernel_rfl) (by simp) ?_
        refine AllReadyH.cons (o := { dst := some 36, op := Op.call { callee := Callee.value (Operand.func 13), args := #[Operand.tmp 34, Operand.tmp 35], argTypes := #[3, 3] }, type := 3, pos := "arrearsref9.go:73", after := #[{ on := 5, ground := Ground.data }, { on := 6, ground := Ground.data }, { on := 2, ground := Ground.chain }, { on := 2, ground := Ground.guard }], guard := some (2, false) }) rfl (fun K hK => ?_) AllReadyH.nil
        go_simp
        refine (TU.out _).mono ?_
        rintro e wa ⟨rfl, rfl⟩
        refine hK.out _ _ hH (fun hH => ?_)
        refine wpAnyH_ready (rs := [8]) (by kernel_rfl) (by simp) ?_
        refine AllReadyH.cons (o := { dst := some 37, op := Op.call { callee := Callee.value (Operand.func 15), args := #[Operand.tmp 33, Operand.tmp 36], argTypes := #[23, 3] }, type := 2, pos := "arrearsref9.go:73", after := #[{ on := 4, ground := Ground.data }, { on := 7, ground := Ground.data }, { on := 7, ground := Ground.chain }, { on := 2, ground := Ground.guard }], guard := some (2, false) }) rfl (fun K hK => ?_) AllReadyH.nil
        go_simp
        refine (WA.out _).mono ?_
        rintro e wb ⟨rfl, bb⟩
        refine hK.out _ _ (hH.call bb) (fun hH => ?_)
        refine wpAnyH_take (i := 9) (oi := { dst := some 38, op := Op.binOp BinOp.lss 2 (Operand.tmp 32) (Operand.tmp 37) 2, type := 4, pos := "arrearsref9.go:73", after := #[{ on := 3, ground := Ground.data }, { on := 8, ground := Ground.data }, { on := 2, ground := Ground.guard }], guard := some (2, false) }) (v := .bool lt) rfl (by kernel_rfl) (by kernel_rfl) (by kernel_rfl) (fun _ _ _ h => h) (Or.inl ⟨by rfl, fun w' hs => by go_simp⟩) hH ?_
        simp only [Act.put, List.setIfInBounds_toArray, List.set_cons_zero, List.set_cons_succ]
        refine wpAnyH_take (i := 10) (oi := { dst := some 39, op := Op.pick (Operand.tmp 31) (Operand.const (Value.bool true)) (Operand.tmp 38), type := 4, pos := "arrearsref9.go:73", after := #[{ on := 2, ground := Ground.data }, { on := 9, ground := Ground.data }], guard := none }) (v := .bool lt) rfl (by kernel_rfl) (by kernel_rfl) (by kernel_rfl) (fun _ _ _ h => h) (Or.inl ⟨by rfl, fun w' hs => by go_simp⟩) hH ?_
        simp only [Act.put, List.setIfInBounds_toArray, List.set_cons_zero, List.set_cons_succ]
        refine wpAnyH_done (by kernel_rfl) ?_ _
        have K5 : Hid (KB w [(w.heap.size, 23, bkL [f, i, p])] wb) := hH
        clear hH hK KR
        cases lt
        · have hge : ¬ll < dd := of_decide_eq_false hlt
          obtain rfl : PR = dd := by rw [PVX.out]; omega
          have KR := K5
          clear K5
          go_wp2_with fail
          refine wp_region_held_drew (S := fun w' => KB w [(w.heap.size, 23, bkL [f, i, p])] w') (by kernel_rfl) (KR.out.drewN 1) (fun hH => ?_)
          refine' wpAnyH_take (i := 0) (oi := { dst := some 41, op := Op.load 23 (Operand.tmp 5), type := 23, pos := "arrearsref9.go:76", after := #[], guard := none }) (v := _) rfl (by kernel_rfl) (by kernel_rfl) (by kernel_rfl) (fun _ _ _ h => h) (yieldsIf_load_mid (by rfl) _ _ rfl _ _ rfl (bkL [f, i, p]) _ (fun w' h => (h.at 0 rfl).all) Tryd.underlying23 rfl infoO) hH ?_
          simp only [Act.put, List.setIfInBounds_toArray, List.set_cons_zero, List.set_cons_succ]
          refine wpAnyH_take (i := 1) (oi := { dst := some 42, op := Op.move (Operand.tmp 0), type := 3, pos := "arrearsref9.go:76", after := #[], guard := none }) (v := .int .i64 (n : Int)) rfl (by kernel_rfl) (by kernel_rfl) (by kernel_rfl) (fun _ _ _ h => h) (Or.inl ⟨by rfl, fun w' hs => by go_simp⟩) hH ?_
          simp only [Act.put, List.setIfInBounds_toArray, List.set_cons_zero, List.set_cons_succ]
          refine wpAnyH_take (i := 2) (oi := { dst := some 43, op := Op.move (Operand.tmp 3), type := 3, pos := "arrearsref9.go:76", after := #[], guard := none }) (v := .int .i64 (k : Int)) rfl (by kernel_rfl) (by kernel_rfl) (by kernel_rfl) (fun _ _ _ h => h) (Or.inl ⟨by rfl, fun w' hs => by go_simp⟩) hH ?_
          simp only [Act.put, List.setIfInBounds_toArray, List.set_cons_zero, List.set_cons_succ]
          refine wpAnyH_ready (rs := [3]) (by kernel_rfl) (by simp) ?_
          refine AllReadyH.cons (o := { dst := some 44, op := Op.call { callee := Callee.value (Operand.func 13), args := #[Operand.tmp 42, Operand.tmp 43], argTypes := #[3, 3] }, type := 3, pos := "arrearsref9.go:76", after := #[{ on := 1, ground := Ground.data }, { on := 2, ground := Ground.data }], guard := none }) rfl (fun K hK => ?_) AllReadyH.nil
          go_simp
          refine (TU.out _).mono ?_
          rintro e wa ⟨rfl, rfl⟩
          refine hK.out _ _ hH (fun hH => ?_)
          refine wpAnyH_ready (rs := [4]) (by kernel_rfl) (by simp) ?_
          refine AllReadyH.cons (o := { dst := some 45, op := Op.call { callee := Callee.value (Operand.func 15), args := #[Operand.tmp 41, Operand.tmp 44], argTypes := #[23, 3] }, type := 2, pos := "arrearsref9.go:76", after := #[{ on := 0, ground := Ground.data }, { on := 3, ground := Ground.data }, { on := 3, ground := Ground.chain }], guard := none }) rfl (fun K hK => ?_) AllReadyH.nil
          go_simp
          refine (WA.out _).mono ?_
          rintro e wb ⟨rfl, bb⟩
          refine hK.out _ _ (hH.call bb) (fun hH => ?_)
          refine wpAnyH_take (i := 5) (oi := { dst := some 8, op := Op.assign (Operand.tmp 45), type := 2, pos := "arrearsref9.go:76", after := #[{ on := 4, ground := Ground.data }, { on := 4, ground := Ground.chain }, { on := 0, ground := Ground.phase }, { on := 1, ground := Ground.phase }, { on := 2, ground := Ground.phase }, { on := 3, ground := Ground.phase }, { on := 4, ground := Ground.phase }], guard := none }) (v := .int .i64 PR) rfl (by kernel_rfl) (by kernel_rfl) (by kernel_rfl) (fun _ _ _ h => h) (Or.inl ⟨by rfl, fun w' hs => by go_simp⟩) hH ?_
          simp only [Act.put, List.setIfInBounds_toArray, List.set_cons_zero, List.set_cons_succ]
          refine wpAnyH_done (by kernel_rfl) ?_ _
          have K5 : Hid (KB w [(w.heap.size, 23, bkL [f, i, p])] wb) := hH
          clear hH hK KR
          go_wp2_with fail
          go_ret
          exact ⟨rfl, K5.out.bb⟩
        · have hge : ll < dd := of_decide_eq_true hlt
          obtain rfl : PR = ll := by rw [PVX.out]; omega
          go_wp2_with fail
          go_ret
          exact ⟨rfl, K5.out.bb⟩
end Go.Proofs.YtplebplpachgiaaDoor
