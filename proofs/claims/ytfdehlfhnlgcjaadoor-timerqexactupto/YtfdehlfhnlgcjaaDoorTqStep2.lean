/-
  Ours: the law's step at the kinds that ask, at pops, and at any other kind.
-/
import Derived.Test.YtfdehlfhnlgcjaaDoorTqStep
namespace Go.Proofs.YtfdehlfhnlgcjaaDoor
open Go.RowKit TqM

theorem Oc.keep {w w1 w2 : World} {R1 R2 : Nat} {vL : Value} {kd : Int} {ot : Bool} {k : Ky} {n : Int} (b : Below w1.heap.size w1 w2) (c : Oc w R1 R2 vL kd ot k n w1) : Oc w R1 R2 vL kd ot k n w2 := by
  obtain ⟨a0, a1, a2, a3, a4, a5, a6, a7, a8⟩ := c
  exact ⟨below_cell b a0, below_cell b a1, below_cell b a2, below_cell b a3, below_cell b a4, below_cell b a5, below_cell b a6, below_cell b a7, below_cell b a8⟩
theorem Oc.set3 {w w1 : World} {R1 R2 : Nat} {vL : Value} {kd : Int} {ot : Bool} {k : Ky} {n : Int} (x y u : Value) (c : Oc w R1 R2 vL kd ot k n w1) : Oc w R1 R2 vL kd ot k n (((w1.setCell ⟨w.heap.size + 2, 0, none⟩ x).setCell ⟨w.heap.size + 2, 1, none⟩ y).setCell ⟨w.heap.size + 2, 2, none⟩ u) := by
  have G7 := grownBy_trans (grownBy_trans (setCell_grown w1 (w.heap.size + 2) 0 x) (setCell_grown _ (w.heap.size + 2) 1 y)) (setCell_grown _ (w.heap.size + 2) 2 u)
  have hq : w.heap.size ≠ w.heap.size + 2 := by omega
  have ho : w.heap.size + 1 ≠ w.heap.size + 2 := by omega
  obtain ⟨a0, a1, a2, a3, a4, a5, a6, a7, a8⟩ := c
  exact ⟨TQ.cell_grown G7 hq a0, TQ.cell_grown G7 hq a1, TQ.cell_grown G7 hq a2, TQ.cell_grown G7 ho a3, TQ.cell_grown G7 ho a4, TQ.cell_grown G7 ho a5, TQ.cell_grown G7 ho a6, TQ.cell_grown G7 ho a7, TQ.cell_grown G7 ho a8⟩
theorem set3_below {w w1 : World} {P : Nat} (x y u : Value) (b : Below w.heap.size w w1) (hP : w.heap.size ≤ P) : Below w.heap.size w (((w1.setCell ⟨P, 0, none⟩ x).setCell ⟨P, 1, none⟩ y).setCell ⟨P, 2, none⟩ u) :=
  below_row b (grownBy_trans (grownBy_trans (setCell_grown w1 P 0 x) (setCell_grown _ P 1 y)) (setCell_grown _ P 2 u)) hP

set_option maxRecDepth 20000 in
set_option maxHeartbeats 4000000 in
theorem step_other (R1 R2 : Nat) (va : Option Addr) (vm vc : Nat) (kd : Int) (ot : Bool) (k : Ky) (n : Int) (w : World) (h1 : kd ≠ 1) (h2 : kd ≠ 2) (h3 : kd ≠ 3) (h4 : kd ≠ 4) (h5 : kd ≠ 5) (h6 : kd ≠ 6) (h7 : kd ≠ 7) :
    Calls Tryd.prog 9 #[trV R1 R2 (.slice va vm vc), opV kd ot k n] w fun e w' => e = .returned (.tuple #[trV R1 R2 (.slice va vm vc), .bool true]) ∧ Below w.heap.size w w' := by
  have B0 : Hid (Oz w R1 R2 (.slice va vm vc) kd ot k n (((w.alloc (.cells #[.pointer (some ⟨R1, 0, none⟩), .pointer (some ⟨R2, 0, none⟩), (.slice va vm vc)] 33)).alloc (.cells #[.int .i64 kd, .bool ot, .int .i64 k.d, .int .i64 k.l, .int .i64 k.n, .int .i64 n] 26)).alloc (.cells #[.pointer none, .pointer none, .slice none 0 0] 33)) ∧ Below w.heap.size w (((w.alloc (.cells #[.pointer (some ⟨R1, 0, none⟩), .pointer (some ⟨R2, 0, none⟩), (.slice va vm vc)] 33)).alloc (.cells #[.int .i64 kd, .bool ot, .int .i64 k.d, .int .i64 k.l, .int .i64 k.n, .int .i64 n] 26)).alloc (.cells #[.pointer none, .pointer none, .slice none 0 0] 33)) ∧ w.heap.size + 3 ≤ (((w.alloc (.cells #[.pointer (some ⟨R1, 0, none⟩), .pointer (some ⟨R2, 0, none⟩), (.slice va vm vc)] 33)).alloc (.cells #[.int .i64 kd, .bool ot, .int .i64 k.d, .int .i64 k.l, .int .i64 k.n, .int .i64 n] 26)).alloc (.cells #[.pointer none, .pointer none, .slice none 0 0] 33)).heap.size) := Oz.start w R1 R2 (.slice va vm vc) kd ot k n
  have e1 : (kd == 1) = false := by simpa using h1
  have e2 : (kd == 2) = false := by simpa using h2
  have e3 : (kd == 3) = false := by simpa using h3
  have e4 : (kd == 4) = false := by simpa using h4
  have e5 : (kd == 5) = false := by simpa using h5
  have e6 : (kd == 6) = false := by simpa using h6
  have e7 : (kd == 7) = false := by simpa using h7
  clear h1 h2 h3 h4 h5 h6 h7
  go_enter Tryd.func9, Tryd.ntmps9
  go_upto_region 27 with fail
  generalize (((w.alloc (.cells #[.pointer (some ⟨R1, 0, none⟩), .pointer (some ⟨R2, 0, none⟩), (.slice va vm vc)] 33)).alloc (.cells #[.int .i64 kd, .bool ot, .int .i64 k.d, .int .i64 k.l, .int .i64 k.n, .int .i64 n] 26)).alloc (.cells #[.pointer none, .pointer none, .slice none 0 0] 33)) = w8 at *
  have x0 := B0.out.1.q.cell 0 _ rfl
  have x1 := B0.out.1.q.cell 1 _ rfl
  have x2 := B0.out.1.q.cell 2 _ rfl
  have p0 := B0.out.1.p.cell 0 _ rfl; have f0 := B0.out.1.p.fz 0; have p1 := B0.out.1.p.cell 1 _ rfl; have f1 := B0.out.1.p.fz 1; have p2 := B0.out.1.p.cell 2 _ rfl; have f2 := B0.out.1.p.fz 2; have ltP := B0.out.1.p.lt
  have N9 : Hid (Blk (w.heap.size + 2) 33 (trL R1 R2 (.slice va vm vc)) (((w8.setCell ⟨w.heap.size + 2, 0, none⟩ (.pointer (some ⟨R1, 0, none⟩))).setCell ⟨w.heap.size + 2, 1, none⟩ (.pointer (some ⟨R2, 0, none⟩))).setCell ⟨w.heap.size + 2, 2, none⟩ (.slice va vm vc)) ∧ Below w.heap.size w (((w8.setCell ⟨w.heap.size + 2, 0, none⟩ (.pointer (some ⟨R1, 0, none⟩))).setCell ⟨w.heap.size + 2, 1, none⟩ (.pointer (some ⟨R2, 0, none⟩))).setCell ⟨w.heap.size + 2, 2, none⟩ (.slice va vm vc))) := ⟨((B0.out.1.p.set (i := 0) (.pointer (some ⟨R1, 0, none⟩))).set (i := 1) (.pointer (some ⟨R2, 0, none⟩))).set (i := 2) (.slice va vm vc), set3_below _ _ _ B0.out.2.1 (by omega)⟩
  clear B0
  go_wp2_with fail
  exact ret_blk_tmp rfl rfl (w.heap.size + 2) _ (trL R1 R2 (.slice va vm vc)) _ rfl N9.out.1 Tryd.underlying33 rfl (infoTr _ _ _) ⟨rfl, N9.out.2⟩

set_option maxRecDepth 20000 in
set_option maxHeartbeats 4000000 in
theorem step_gets (R1 R2 : Nat) (va : Option Addr) (vm vc : Nat) (ot : Bool) (k : Ky) (n : Int) (w : World)
    (AK : ∀ w', Below w.heap.size w w' → Calls Tryd.prog 16 #[.agg #[.pointer (some ⟨R1, 0, none⟩), .pointer (some ⟨R2, 0, none⟩), (.slice va vm vc)], .agg #[.int .i64 k.d, .int .i64 k.l, .int .i64 k.n]] w' fun e w2 => e = .returned (.bool true) ∧ Below w'.heap.size w' w2) :
    Calls Tryd.prog 9 #[trV R1 R2 (.slice va vm vc), opV 2 ot k n] w fun e w' => e = .returned (.tuple #[trV R1 R2 (.slice va vm vc), .bool true]) ∧ Below w.heap.size w w' := by
  have HA : Hid (∀ w', Below w.heap.size w w' → Calls Tryd.prog 16 #[.agg #[.pointer (some ⟨R1, 0, none⟩), .pointer (some ⟨R2, 0, none⟩), (.slice va vm vc)], .agg #[.int .i64 k.d, .int .i64 k.l, .int .i64 k.n]] w' fun e w2 => e = .returned (.bool true) ∧ Below w'.heap.size w' w2) := AK
  have B0 : Hid (Oz w R1 R2 (.slice va vm vc) 2 ot k n (((w.alloc (.cells #[.pointer (some ⟨R1, 0, none⟩), .pointer (some ⟨R2, 0, none⟩), (.slice va vm vc)] 33)).alloc (.cells #[.int .i64 2, .bool ot, .int .i64 k.d, .int .i64 k.l, .int .i64 k.n, .int .i64 n] 26)).alloc (.cells #[.pointer none, .pointer none, .slice none 0 0] 33)) ∧ Below w.heap.size w (((w.alloc (.cells #[.pointer (some ⟨R1, 0, none⟩), .pointer (some ⟨R2, 0, none⟩), (.slice va vm vc)] 33)).alloc (.cells #[.int .i64 2, .bool ot, .int .i64 k.d, .int .i64 k.l, .int .i64 k.n, .int .i64 n] 26)).alloc (.cells #[.pointer none, .pointer none, .slice none 0 0] 33)) ∧ w.heap.size + 3 ≤ (((w.alloc (.cells #[.pointer (some ⟨R1, 0, none⟩), .pointer (some ⟨R2, 0, none⟩), (.slice va vm vc)] 33)).alloc (.cells #[.int .i64 2, .bool ot, .int .i64 k.d, .int .i64 k.l, .int .i64 k.n, .int .i64 n] 26)).alloc (.cells #[.pointer none, .pointer none, .slice none 0 0] 33)).heap.size) := Oz.start w R1 R2 (.slice va vm vc) 2 ot k n
  clear AK
  go_enter Tryd.func9, Tryd.ntmps9
  go_wp2_with fail
  generalize (((w.alloc (.cells #[.pointer (some ⟨R1, 0, none⟩), .pointer (some ⟨R2, 0, none⟩), (.slice va vm vc)] 33)).alloc (.cells #[.int .i64 2, .bool ot, .int .i64 k.d, .int .i64 k.l, .int .i64 k.n, .int .i64 n] 26)).alloc (.cells #[.pointer none, .pointer none, .slice none 0 0] 33)) = W at *
  have S0 : Hid (Oc w R1 R2 (.slice va vm vc) 2 ot k n W.drew) := B0.out.1.oc
  have D0 : Hid (Oz w R1 R2 (.slice va vm vc) 2 ot k n W.drew ∧ Below w.heap.size w W.drew) := ⟨B0.out.1.below (Below.drew (Below.refl _ _)), Below.drew B0.out.2.1⟩
  clear B0
  go_region_held3 (fun w' => Oc w R1 R2 (.slice va vm vc) 2 ot k n w') (first | assumption | exact S0.out | exact Oc.keep hU (by assumption) | exact Oc.set3 _ _ _ (by assumption)) (first
    | (go_at_call 16; refine (HA.out _ D0.out.2).mono ?_; rintro e w8 ⟨rfl, hU⟩; have O8 : Hid (Oz w R1 R2 (.slice va vm vc) 2 ot k n w8 ∧ Below w.heap.size w w8) := ⟨D0.out.1.below hU, below_trans D0.out.2 hU⟩; have p0 := O8.out.1.p.cell 0 _ rfl; have f0 := O8.out.1.p.fz 0; have p1 := O8.out.1.p.cell 1 _ rfl; have f1 := O8.out.1.p.fz 1; have p2 := O8.out.1.p.cell 2 _ rfl; have f2 := O8.out.1.p.fz 2; have ltP := O8.out.1.p.lt))
  all_goals
    have N9 : Hid (Blk (w.heap.size + 2) 33 (trL R1 R2 (.slice va vm vc)) (((w8.setCell ⟨w.heap.size + 2, 0, none⟩ (.pointer (some ⟨R1, 0, none⟩))).setCell ⟨w.heap.size + 2, 1, none⟩ (.pointer (some ⟨R2, 0, none⟩))).setCell ⟨w.heap.size + 2, 2, none⟩ (.slice va vm vc)) ∧ Below w.heap.size w (((w8.setCell ⟨w.heap.size + 2, 0, none⟩ (.pointer (some ⟨R1, 0, none⟩))).setCell ⟨w.heap.size + 2, 1, none⟩ (.pointer (some ⟨R2, 0, none⟩))).setCell ⟨w.heap.size + 2, 2, none⟩ (.slice va vm vc))) := ⟨((O8.out.1.p.set (i := 0) (.pointer (some ⟨R1, 0, none⟩))).set (i := 1) (.pointer (some ⟨R2, 0, none⟩))).set (i := 2) (.slice va vm vc), set3_below _ _ _ O8.out.2 (by omega)⟩
    clear O8 D0 hU p0 p1 p2 f0 f1 f2 ltP
    go_wp2_with fail
    exact ret_blk_tmp rfl rfl (w.heap.size + 2) _ (trL R1 R2 (.slice va vm vc)) _ rfl N9.out.1 Tryd.underlying33 rfl (infoTr _ _ _) ⟨rfl, N9.out.2⟩

set_option maxRecDepth 20000 in
set_option maxHeartbeats 4000000 in
theorem step_nexts (R1 R2 : Nat) (va : Option Addr) (vm vc : Nat) (ot : Bool) (k : Ky) (n : Int) (w : World)
    (AK : ∀ w', Below w.heap.size w w' → Calls Tryd.prog 23 #[.agg #[.pointer (some ⟨R1, 0, none⟩), .pointer (some ⟨R2, 0, none⟩), (.slice va vm vc)]] w' fun e w2 => e = .returned (.bool true) ∧ Below w'.heap.size w' w2) :
    Calls Tryd.prog 9 #[trV R1 R2 (.slice va vm vc), opV 5 ot k n] w fun e w' => e = .returned (.tuple #[trV R1 R2 (.slice va vm vc), .bool true]) ∧ Below w.heap.size w w' := by
  have HA : Hid (∀ w', Below w.heap.size w w' → Calls Tryd.prog 23 #[.agg #[.pointer (some ⟨R1, 0, none⟩), .pointer (some ⟨R2, 0, none⟩), (.slice va vm vc)]] w' fun e w2 => e = .returned (.bool true) ∧ Below w'.heap.size w' w2) := AK
  have B0 : Hid (Oz w R1 R2 (.slice va vm vc) 5 ot k n (((w.alloc (.cells #[.pointer (some ⟨R1, 0, none⟩), .pointer (some ⟨R2, 0, none⟩), (.slice va vm vc)] 33)).alloc (.cells #[.int .i64 5, .bool ot, .int .i64 k.d, .int .i64 k.l, .int .i64 k.n, .int .i64 n] 26)).alloc (.cells #[.pointer none, .pointer none, .slice none 0 0] 33)) ∧ Below w.heap.size w (((w.alloc (.cells #[.pointer (some ⟨R1, 0, none⟩), .pointer (some ⟨R2, 0, none⟩), (.slice va vm vc)] 33)).alloc (.cells #[.int .i64 5, .bool ot, .int .i64 k.d, .int .i64 k.l, .int .i64 k.n, .int .i64 n] 26)).alloc (.cells #[.pointer none, .pointer none, .slice none 0 0] 33)) ∧ w.heap.size + 3 ≤ (((w.alloc (.cells #[.pointer (some ⟨R1, 0, none⟩), .pointer (some ⟨R2, 0, none⟩), (.slice va vm vc)] 33)).alloc (.cells #[.int .i64 5, .bool ot, .int .i64 k.d, .int .i64 k.l, .int .i64 k.n, .int .i64 n] 26)).alloc (.cells #[.pointer none, .pointer none, .slice none 0 0] 33)).heap.size) := Oz.start w R1 R2 (.slice va vm vc) 5 ot k n
  clear AK
  go_enter Tryd.func9, Tryd.ntmps9
  go_wp2_with fail
  generalize (((w.alloc (.cells #[.pointer (some ⟨R1, 0, none⟩), .pointer (some ⟨R2, 0, none⟩), (.slice va vm vc)] 33)).alloc (.cells #[.int .i64 5, .bool ot, .int .i64 k.d, .int .i64 k.l, .int .i64 k.n, .int .i64 n] 26)).alloc (.cells #[.pointer none, .pointer none, .slice none 0 0] 33)) = W at *
  have S0 : Hid (Oc w R1 R2 (.slice va vm vc) 5 ot k n W.drew) := B0.out.1.oc
  have D0 : Hid (Oz w R1 R2 (.slice va vm vc) 5 ot k n W.drew ∧ Below w.heap.size w W.drew) := ⟨B0.out.1.below (Below.drew (Below.refl _ _)), Below.drew B0.out.2.1⟩
  clear B0
  go_region_held3 (fun w' => Oc w R1 R2 (.slice va vm vc) 5 ot k n w') (first | assumption | exact S0.out | exact Oc.keep hU (by assumption) | exact Oc.set3 _ _ _ (by assumption)) (first
    | (go_at_call 23; refine (HA.out _ D0.out.2).mono ?_; rintro e w8 ⟨rfl, hU⟩; have O8 : Hid (Oz w R1 R2 (.slice va vm vc) 5 ot k n w8 ∧ Below w.heap.size w w8) := ⟨D0.out.1.below hU, below_trans D0.out.2 hU⟩; have p0 := O8.out.1.p.cell 0 _ rfl; have f0 := O8.out.1.p.fz 0; have p1 := O8.out.1.p.cell 1 _ rfl; have f1 := O8.out.1.p.fz 1; have p2 := O8.out.1.p.cell 2 _ rfl; have f2 := O8.out.1.p.fz 2; have ltP := O8.out.1.p.lt))
  all_goals
    have N9 : Hid (Blk (w.heap.size + 2) 33 (trL R1 R2 (.slice va vm vc)) (((w8.setCell ⟨w.heap.size + 2, 0, none⟩ (.pointer (some ⟨R1, 0, none⟩))).setCell ⟨w.heap.size + 2, 1, none⟩ (.pointer (some ⟨R2, 0, none⟩))).setCell ⟨w.heap.size + 2, 2, none⟩ (.slice va vm vc)) ∧ Below w.heap.size w (((w8.setCell ⟨w.heap.size + 2, 0, none⟩ (.pointer (some ⟨R1, 0, none⟩))).setCell ⟨w.heap.size + 2, 1, none⟩ (.pointer (some ⟨R2, 0, none⟩))).setCell ⟨w.heap.size + 2, 2, none⟩ (.slice va vm vc))) := ⟨((O8.out.1.p.set (i := 0) (.pointer (some ⟨R1, 0, none⟩))).set (i := 1) (.pointer (some ⟨R2, 0, none⟩))).set (i := 2) (.slice va vm vc), set3_below _ _ _ O8.out.2 (by omega)⟩
    clear O8 D0 hU p0 p1 p2 f0 f1 f2 ltP
    go_wp2_with fail
    exact ret_blk_tmp rfl rfl (w.heap.size + 2) _ (trL R1 R2 (.slice va vm vc)) _ rfl N9.out.1 Tryd.underlying33 rfl (infoTr _ _ _) ⟨rfl, N9.out.2⟩

set_option maxRecDepth 20000 in
set_option maxHeartbeats 4000000 in
theorem step_lists (R1 R2 : Nat) (va : Option Addr) (vm vc : Nat) (ot : Bool) (k : Ky) (n : Int) (w : World)
    (AK : ∀ w', Below w.heap.size w w' → Calls Tryd.prog 25 #[.agg #[.pointer (some ⟨R1, 0, none⟩), .pointer (some ⟨R2, 0, none⟩), (.slice va vm vc)]] w' fun e w2 => e = .returned (.bool true) ∧ Below w'.heap.size w' w2) :
    Calls Tryd.prog 9 #[trV R1 R2 (.slice va vm vc), opV 7 ot k n] w fun e w' => e = .returned (.tuple #[trV R1 R2 (.slice va vm vc), .bool true]) ∧ Below w.heap.size w w' := by
  have HA : Hid (∀ w', Below w.heap.size w w' → Calls Tryd.prog 25 #[.agg #[.pointer (some ⟨R1, 0, none⟩), .pointer (some ⟨R2, 0, none⟩), (.slice va vm vc)]] w' fun e w2 => e = .returned (.bool true) ∧ Below w'.heap.size w' w2) := AK
  have B0 : Hid (Oz w R1 R2 (.slice va vm vc) 7 ot k n (((w.alloc (.cells #[.pointer (some ⟨R1, 0, none⟩), .pointer (some ⟨R2, 0, none⟩), (.slice va vm vc)] 33)).alloc (.cells #[.int .i64 7, .bool ot, .int .i64 k.d, .int .i64 k.l, .int .i64 k.n, .int .i64 n] 26)).alloc (.cells #[.pointer none, .pointer none, .slice none 0 0] 33)) ∧ Below w.heap.size w (((w.alloc (.cells #[.pointer (some ⟨R1, 0, none⟩), .pointer (some ⟨R2, 0, none⟩), (.slice va vm vc)] 33)).alloc (.cells #[.int .i64 7, .bool ot, .int .i64 k.d, .int .i64 k.l, .int .i64 k.n, .int .i64 n] 26)).alloc (.cells #[.pointer none, .pointer none, .slice none 0 0] 33)) ∧ w.heap.size + 3 ≤ (((w.alloc (.cells #[.pointer (some ⟨R1, 0, none⟩), .pointer (some ⟨R2, 0, none⟩), (.slice va vm vc)] 33)).alloc (.cells #[.int .i64 7, .bool ot, .int .i64 k.d, .int .i64 k.l, .int .i64 k.n, .int .i64 n] 26)).alloc (.cells #[.pointer none, .pointer none, .slice none 0 0] 33)).heap.size) := Oz.start w R1 R2 (.slice va vm vc) 7 ot k n
  clear AK
  go_enter Tryd.func9, Tryd.ntmps9
  go_wp2_with fail
  generalize (((w.alloc (.cells #[.pointer (some ⟨R1, 0, none⟩), .pointer (some ⟨R2, 0, none⟩), (.slice va vm vc)] 33)).alloc (.cells #[.int .i64 7, .bool ot, .int .i64 k.d, .int .i64 k.l, .int .i64 k.n, .int .i64 n] 26)).alloc (.cells #[.pointer none, .pointer none, .slice none 0 0] 33)) = W at *
  have S0 : Hid (Oc w R1 R2 (.slice va vm vc) 7 ot k n W.drew) := B0.out.1.oc
  have D0 : Hid (Oz w R1 R2 (.slice va vm vc) 7 ot k n W.drew ∧ Below w.heap.size w W.drew) := ⟨B0.out.1.below (Below.drew (Below.refl _ _)), Below.drew B0.out.2.1⟩
  clear B0
  go_region_held3 (fun w' => Oc w R1 R2 (.slice va vm vc) 7 ot k n w') (first | assumption | exact S0.out | exact Oc.keep hU (by assumption) | exact Oc.set3 _ _ _ (by assumption)) (first
    | (go_at_call 25; refine (HA.out _ D0.out.2).mono ?_; rintro e w8 ⟨rfl, hU⟩; have O8 : Hid (Oz w R1 R2 (.slice va vm vc) 7 ot k n w8 ∧ Below w.heap.size w w8) := ⟨D0.out.1.below hU, below_trans D0.out.2 hU⟩; have p0 := O8.out.1.p.cell 0 _ rfl; have f0 := O8.out.1.p.fz 0; have p1 := O8.out.1.p.cell 1 _ rfl; have f1 := O8.out.1.p.fz 1; have p2 := O8.out.1.p.cell 2 _ rfl; have f2 := O8.out.1.p.fz 2; have ltP := O8.out.1.p.lt))
  all_goals
    have N9 : Hid (Blk (w.heap.size + 2) 33 (trL R1 R2 (.slice va vm vc)) (((w8.setCell ⟨w.heap.size + 2, 0, none⟩ (.pointer (some ⟨R1, 0, none⟩))).setCell ⟨w.heap.size + 2, 1, none⟩ (.pointer (some ⟨R2, 0, none⟩))).setCell ⟨w.heap.size + 2, 2, none⟩ (.slice va vm vc)) ∧ Below w.heap.size w (((w8.setCell ⟨w.heap.size + 2, 0, none⟩ (.pointer (some ⟨R1, 0, none⟩))).setCell ⟨w.heap.size + 2, 1, none⟩ (.pointer (some ⟨R2, 0, none⟩))).setCell ⟨w.heap.size + 2, 2, none⟩ (.slice va vm vc))) := ⟨((O8.out.1.p.set (i := 0) (.pointer (some ⟨R1, 0, none⟩))).set (i := 1) (.pointer (some ⟨R2, 0, none⟩))).set (i := 2) (.slice va vm vc), set3_below _ _ _ O8.out.2 (by omega)⟩
    clear O8 D0 hU p0 p1 p2 f0 f1 f2 ltP
    go_wp2_with fail
    exact ret_blk_tmp rfl rfl (w.heap.size + 2) _ (trL R1 R2 (.slice va vm vc)) _ rfl N9.out.1 Tryd.underlying33 rfl (infoTr _ _ _) ⟨rfl, N9.out.2⟩

set_option maxRecDepth 20000 in
set_option maxHeartbeats 4000000 in
theorem step_pop (R1 R2 : Nat) (vL : Value) (ot : Bool) (k : Ky) (n : Int) (w : World) (T : Nat → Prop) (hT : ∀ g, T g → g < w.heap.size) (F : Value → World → Prop)
    (PO : ∀ w', Below w.heap.size w w' → w.heap.size + 3 ≤ w'.heap.size → Calls Tryd.prog 24 #[.agg #[.pointer (some ⟨R1, 0, none⟩), .pointer (some ⟨R2, 0, none⟩), vL], .int .i64 n] w' fun e w2 => ∃ a m c, e = .returned (.tuple #[.agg #[.pointer (some ⟨R1, 0, none⟩), .pointer (some ⟨R2, 0, none⟩), .slice a m c], .bool true]) ∧ F (.slice a m c) w2 ∧ Kp T w' w2)
    (c3 : ∀ v w' w2 M, F v w' → Kp M w' w2 → (∀ g, M g → w.heap.size ≤ g ∧ g < w.heap.size + 3) → F v w2) :
    Calls Tryd.prog 9 #[trV R1 R2 vL, opV 6 ot k n] w fun e w' => ∃ vL', e = .returned (.tuple #[trV R1 R2 vL', .bool true]) ∧ F vL' w' := by
  have HT : Hid (∀ g, T g → g < w.heap.size) := hT
  have HP : Hid (∀ w', Below w.heap.size w w' → w.heap.size + 3 ≤ w'.heap.size → Calls Tryd.prog 24 #[.agg #[.pointer (some ⟨R1, 0, none⟩), .pointer (some ⟨R2, 0, none⟩), vL], .int .i64 n] w' fun e w2 => ∃ a m c, e = .returned (.tuple #[.agg #[.pointer (some ⟨R1, 0, none⟩), .pointer (some ⟨R2, 0, none⟩), .slice a m c], .bool true]) ∧ F (.slice a m c) w2 ∧ Kp T w' w2) := PO
  have HC : Hid (∀ v w' w2 M, F v w' → Kp M w' w2 → (∀ g, M g → w.heap.size ≤ g ∧ g < w.heap.size + 3) → F v w2) := c3
  have B0 : Hid (Oz w R1 R2 vL 6 ot k n (((w.alloc (.cells #[.pointer (some ⟨R1, 0, none⟩), .pointer (some ⟨R2, 0, none⟩), vL] 33)).alloc (.cells #[.int .i64 6, .bool ot, .int .i64 k.d, .int .i64 k.l, .int .i64 k.n, .int .i64 n] 26)).alloc (.cells #[.pointer none, .pointer none, .slice none 0 0] 33)) ∧ Below w.heap.size w (((w.alloc (.cells #[.pointer (some ⟨R1, 0, none⟩), .pointer (some ⟨R2, 0, none⟩), vL] 33)).alloc (.cells #[.int .i64 6, .bool ot, .int .i64 k.d, .int .i64 k.l, .int .i64 k.n, .int .i64 n] 26)).alloc (.cells #[.pointer none, .pointer none, .slice none 0 0] 33)) ∧ w.heap.size + 3 ≤ (((w.alloc (.cells #[.pointer (some ⟨R1, 0, none⟩), .pointer (some ⟨R2, 0, none⟩), vL] 33)).alloc (.cells #[.int .i64 6, .bool ot, .int .i64 k.d, .int .i64 k.l, .int .i64 k.n, .int .i64 n] 26)).alloc (.cells #[.pointer none, .pointer none, .slice none 0 0] 33)).heap.size) := Oz.start w R1 R2 vL 6 ot k n
  clear hT PO c3
  go_enter Tryd.func9, Tryd.ntmps9
  go_wp2_with fail
  refine (HP.out _ B0.out.2.1 B0.out.2.2).mono ?_
  rintro e w8 ⟨va, vm, vc, rfl, f8, k8⟩
  have O8 : Hid (Oz w R1 R2 vL 6 ot k n w8 ∧ F (.slice va vm vc) w8) := ⟨B0.out.1.kp HT.out k8, f8⟩
  have p0 := O8.out.1.p.cell 0 _ rfl; have f0 := O8.out.1.p.fz 0; have p1 := O8.out.1.p.cell 1 _ rfl; have f1 := O8.out.1.p.fz 1; have p2 := O8.out.1.p.cell 2 _ rfl; have f2 := O8.out.1.p.fz 2; have ltP := O8.out.1.p.lt
  have N9 : Hid (Blk (w.heap.size + 2) 33 (trL R1 R2 (.slice va vm vc)) (((w8.setCell ⟨w.heap.size + 2, 0, none⟩ (.pointer (some ⟨R1, 0, none⟩))).setCell ⟨w.heap.size + 2, 1, none⟩ (.pointer (some ⟨R2, 0, none⟩))).setCell ⟨w.heap.size + 2, 2, none⟩ (.slice va vm vc)) ∧ F (.slice va vm vc) (((w8.setCell ⟨w.heap.size + 2, 0, none⟩ (.pointer (some ⟨R1, 0, none⟩))).setCell ⟨w.heap.size + 2, 1, none⟩ (.pointer (some ⟨R2, 0, none⟩))).setCell ⟨w.heap.size + 2, 2, none⟩ (.slice va vm vc))) := ⟨((O8.out.1.p.set (i := 0) (.pointer (some ⟨R1, 0, none⟩))).set (i := 1) (.pointer (some ⟨R2, 0, none⟩))).set (i := 2) (.slice va vm vc), HC.out _ _ _ _ O8.out.2 (Kp.of_grown (grownBy_trans (grownBy_trans (setCell_grown w8 _ 0 _) (setCell_grown _ _ 1 _)) (setCell_grown _ _ 2 _))) (fun g e => by injection e with e; omega)⟩
  clear O8 f8 k8 B0 HP HC
  go_wp2_with fail
  exact ret_blk_tmp rfl rfl (w.heap.size + 2) _ (trL R1 R2 (.slice va vm vc)) _ rfl N9.out.1 Tryd.underlying33 rfl (infoTr _ _ _) ⟨_, rfl, N9.out.2⟩

end Go.Proofs.YtfdehlfhnlgcjaaDoor
