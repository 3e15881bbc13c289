/-
  Ours: TqStep2, TqPopA, TqBeg, TqUpM, TqStepA, TqUp1, joined.
-/
import Derived.Test.YtfdehlfhnlgcjaaDoorTqStep
import Derived.Test.YtfdehlfhnlgcjaaDoorTqPops
import Derived.Test.YtfdehlfhnlgcjaaDoorTqTp
import Derived.Test.YtfdehlfhnlgcjaaDoorTqOp
import Derived.Test.YtfdehlfhnlgcjaaDoorTqLists
namespace Go.Proofs.YtfdehlfhnlgcjaaDoor
open Go.RowKit TqM

theorem Oc.keep {w w1 w2 : World} {R1 R2 : Nat} {vL : Value} {kd : Int} {ot : Bool} {k : Ky} {n : Int} (b : Below w1.heap.size w1 w2) (c : Oc w R1 R2 vL kd ot k n w1) : Oc w R1 R2 vL kd ot k n w2 := by
  obtain ⟨a0, a1, a2, a3, a4, a5, a6, a7, a8⟩ := c
  exact ⟨below_cell b a0, below_cell b a1, below_cell b a2, below_cell b a3, below_cell b a4, below_cell b a5, below_cell b a6, below_cell b a7, below_cell b a8⟩
theorem Oc.set3 {w w1 : World} {R1 R2 : Nat} {vL : Value} {kd : Int} {ot : Bool} {k : Ky} {n : Int} (x y u : Value) (c : Oc w R1 R2 vL kd ot k n w1) : Oc w R1 R2 vL kd ot k n (((w1.setCell ⟨w.heap.size + 2, 0, none⟩ x).setCell ⟨w.heap.size + 2, 1, none⟩ y).setCell ⟨w.heap.size + 2, 2, none⟩ u) := by
  have G7 := grownBy_trans (grownBy_trans (setCell_grown w1 (w.heap.size + 2) 0 x) (setCell_grown _ (w.heap.size + 2) 1 y)) (setCell_grown _ (w.heap.size + 2) 2 u)
  have hq : w.heap.size ≠ w.heap.size + 2 := by omega
  have ho : w.heap.size + 1 ≠ w.heap.size + 2 := by omega
  obtain ⟨a0, a1, a2, a3, a4, a5, a6, a7, a8⟩ := c
  exact ⟨TQ.cell_grown G7 hq a0, TQ.cell_grown G7 hq a1, TQ.cell_grown G7 hq a2, TQ.cell_grown G7 ho a3, TQ.cell_grown G7 ho a4, TQ.cell_grown G7 ho a5, TQ.cell_grown G7 ho a6, TQ.cell_grown G7 ho a7, TQ.cell_grown G7 ho a8⟩
theorem set3_below {w w1 : World} {P : Nat} (x y u : Value) (b : Below w.heap.size w w1) (hP : w.heap.size ≤ P) : Below w.heap.size w (((w1.setCell ⟨P, 0, none⟩ x).setCell ⟨P, 1, none⟩ y).setCell ⟨P, 2, none⟩ u) :=
  below_row b (grownBy_trans (grownBy_trans (setCell_grown w1 P 0 x) (setCell_grown _ P 1 y)) (setCell_grown _ P 2 u)) hP

set_option maxRecDepth 20000 in
set_option maxHeartbeats 4000000 in
theorem step_other (R1 R2 : Nat) (va : Option Addr) (vm vc : Nat) (kd : Int) (ot : Bool) (k : Ky) (n : Int) (w : World) (h1 : kd ≠ 1) (h2 : kd ≠ 2) (h3 : kd ≠ 3) (h4 : kd ≠ 4) (h5 : kd ≠ 5) (h6 : kd ≠ 6) (h7 : kd ≠ 7) :
    Calls Tryd.prog 9 #[trV R1 R2 (.slice va vm vc), opV kd ot k n] w fun e w' => e = .returned (.tuple #[trV R1 R2 (.slice va vm vc), .bool true]) ∧ Below w.heap.size w w' := by
  have B0 : Hid (Oz w R1 R2 (.slice va vm vc) kd ot k n (((w.alloc (.cells #[.pointer (some ⟨R1, 0, none⟩), .pointer (some ⟨R2, 0, none⟩), (.slice va vm vc)] 33)).alloc (.cells #[.int .i64 kd, .bool ot, .int .i64 k.d, .int .i64 k.l, .int .i64 k.n, .int .i64 n] 26)).alloc (.cells #[.pointer none, .pointer none, .slice none 0 0] 33)) ∧ Below w.heap.size w (((w.alloc (.cells #[.pointer (some ⟨R1, 0, none⟩), .pointer (some ⟨R2, 0, none⟩), (.slice va vm vc)] 33)).alloc (.cells #[.int .i64 kd, .bool ot, .int .i64 k.d, .int .i64 k.l, .int .i64 k.n, .int .i64 n] 26)).alloc (.cells #[.pointer none, .pointer none, .slice none 0 0] 33)) ∧ w.heap.size + 3 ≤ (((w.alloc (.cells #[.pointer (some ⟨R1, 0, none⟩), .pointer (some ⟨R2, 0, none⟩), (.slice va vm vc)] 33)).alloc (.cells #[.int .i64 kd, .bool ot, .int .i64 k.d, .int .i64 k.l, .int .i64 k.n, .int .i64 n] 26)).alloc (.cells #[.pointer none, .pointer none, .slice none 0 0] 33)).heap.size) := Oz.start w R1 R2 (.slice va vm vc) kd ot k n
  have e1 : (kd == 1) = false := by simpa using h1
  have e2 : (kd == 2) = false := by simpa using h2
  have e3 : (kd == 3) = false := by simpa using h3
  have e4 : (kd == 4) = false := by simpa using h4
  have e5 : (kd == 5) = false := by simpa using h5
  have e6 : (kd == 6) = false := by simpa using h6
  have e7 : (kd == 7) = false := by simpa using h7
  clear h1 h2 h3 h4 h5 h6 h7
  go_enter Tryd.func9, Tryd.ntmps9
  go_upto_region 27 with fail
  generalize (((w.alloc (.cells #[.pointer (some ⟨R1, 0, none⟩), .pointer (some ⟨R2, 0, none⟩), (.slice va vm vc)] 33)).alloc (.cells #[.int .i64 kd, .bool ot, .int .i64 k.d, .int .i64 k.l, .int .i64 k.n, .int .i64 n] 26)).alloc (.cells #[.pointer none, .pointer none, .slice none 0 0] 33)) = w8 at *
  have x0 := B0.out.1.q.cell 0 _ rfl
  have x1 := B0.out.1.q.cell 1 _ rfl
  have x2 := B0.out.1.q.cell 2 _ rfl
  have p0 := B0.out.1.p.cell 0 _ rfl; have f0 := B0.out.1.p.fz 0; have p1 := B0.out.1.p.cell 1 _ rfl; have f1 := B0.out.1.p.fz 1; have p2 := B0.out.1.p.cell 2 _ rfl; have f2 := B0.out.1.p.fz 2; have ltP := B0.out.1.p.lt
  have N9 : Hid (Blk (w.heap.size + 2) 33 (trL R1 R2 (.slice va vm vc)) (((w8.setCell ⟨w.heap.size + 2, 0, none⟩ (.pointer (some ⟨R1, 0, none⟩))).setCell ⟨w.heap.size + 2, 1, none⟩ (.pointer (some ⟨R2, 0, none⟩))).setCell ⟨w.heap.size + 2, 2, none⟩ (.slice va vm vc)) ∧ Below w.heap.size w (((w8.setCell ⟨w.heap.size + 2, 0, none⟩ (.pointer (some ⟨R1, 0, none⟩))).setCell ⟨w.heap.size + 2, 1, none⟩ (.pointer (some ⟨R2, 0, none⟩))).setCell ⟨w.heap.size + 2, 2, none⟩ (.slice va vm vc))) := ⟨((B0.out.1.p.set (i := 0) (.pointer (some ⟨R1, 0, none⟩))).set (i := 1) (.pointer (some ⟨R2, 0, none⟩))).set (i := 2) (.slice va vm vc), set3_below _ _ _ B0.out.2.1 (by omega)⟩
  clear B0
  go_wp2_with fail
  exact ret_blk_tmp rfl rfl (w.heap.size + 2) _ (trL R1 R2 (.slice va vm vc)) _ rfl N9.out.1 Tryd.underlying33 rfl (infoTr _ _ _) ⟨rfl, N9.out.2⟩

set_option maxRecDepth 20000 in
set_option maxHeartbeats 4000000 in
theorem step_gets (R1 R2 : Nat) (va : Option Addr) (vm vc : Nat) (ot : Bool) (k : Ky) (n : Int) (w : World)
    (AK : ∀ w', Below w.heap.size w w' → Calls Tryd.prog 16 #[.agg #[.pointer (some ⟨R1, 0, none⟩), .pointer (some ⟨R2, 0, none⟩), (.slice va vm vc)], .agg #[.int .i64 k.d, .int .i64 k.l, .int .i64 k.n]] w' fun e w2 => e = .returned (.bool true) ∧ Below w'.heap.size w' w2) :
    Calls Tryd.prog 9 #[trV R1 R2 (.slice va vm vc), opV 2 ot k n] w fun e w' => e = .returned (.tuple #[trV R1 R2 (.slice va vm vc), .bool true]) ∧ Below w.heap.size w w' := by
  have HA : Hid (∀ w', Below w.heap.size w w' → Calls Tryd.prog 16 #[.agg #[.pointer (some ⟨R1, 0, none⟩), .pointer (some ⟨R2, 0, none⟩), (.slice va vm vc)], .agg #[.int .i64 k.d, .int .i64 k.l, .int .i64 k.n]] w' fun e w2 => e = .returned (.bool true) ∧ Below w'.heap.size w' w2) := AK
  have B0 : Hid (Oz w R1 R2 (.slice va vm vc) 2 ot k n (((w.alloc (.cells #[.pointer (some ⟨R1, 0, none⟩), .pointer (some ⟨R2, 0, none⟩), (.slice va vm vc)] 33)).alloc (.cells #[.int .i64 2, .bool ot, .int .i64 k.d, .int .i64 k.l, .int .i64 k.n, .int .i64 n] 26)).alloc (.cells #[.pointer none, .pointer none, .slice none 0 0] 33)) ∧ Below w.heap.size w (((w.alloc (.cells #[.pointer (some ⟨R1, 0, none⟩), .pointer (some ⟨R2, 0, none⟩), (.slice va vm vc)] 33)).alloc (.cells #[.int .i64 2, .bool ot, .int .i64 k.d, .int .i64 k.l, .int .i64 k.n, .int .i64 n] 26)).alloc (.cells #[.pointer none, .pointer none, .slice none 0 0] 33)) ∧ w.heap.size + 3 ≤ (((w.alloc (.cells #[.pointer (some ⟨R1, 0, none⟩), .pointer (some ⟨R2, 0, none⟩), (.slice va vm vc)] 33)).alloc (.cells #[.int .i64 2, .bool ot, .int .i64 k.d, .int .i64 k.l, .int .i64 k.n, .int .i64 n] 26)).alloc (.cells #[.pointer none, .pointer none, .slice none 0 0] 33)).heap.size) := Oz.start w R1 R2 (.slice va vm vc) 2 ot k n
  clear AK
  go_enter Tryd.func9, Tryd.ntmps9
  go_wp2_with fail
  generalize (((w.alloc (.cells #[.pointer (some ⟨R1, 0, none⟩), .pointer (some ⟨R2, 0, none⟩), (.slice va vm vc)] 33)).alloc (.cells #[.int .i64 2, .bool ot, .int .i64 k.d, .int .i64 k.l, .int .i64 k.n, .int .i64 n] 26)).alloc (.cells #[.pointer none, .pointer none, .slice none 0 0] 33)) = W at *
  have S0 : Hid (Oc w R1 R2 (.slice va vm vc) 2 ot k n W.drew) := B0.out.1.oc
  have D0 : Hid (Oz w R1 R2 (.slice va vm vc) 2 ot k n W.drew ∧ Below w.heap.size w W.drew) := ⟨B0.out.1.below (Below.drew (Below.refl _ _)), Below.drew B0.out.2.1⟩
  clear B0
  go_region_held3 (fun w' => Oc w R1 R2 (.slice va vm vc) 2 ot k n w') (first | assumption | exact S0.out | exact Oc.keep hU (by assumption) | exact Oc.set3 _ _ _ (by assumption)) (first
    | (go_at_call 16; refine (HA.out _ D0.out.2).mono ?_; rintro e w8 ⟨rfl, hU⟩; have O8 : Hid (Oz w R1 R2 (.slice va vm vc) 2 ot k n w8 ∧ Below w.heap.size w w8) := ⟨D0.out.1.below hU, below_trans D0.out.2 hU⟩; have p0 := O8.out.1.p.cell 0 _ rfl; have f0 := O8.out.1.p.fz 0; have p1 := O8.out.1.p.cell 1 _ rfl; have f1 := O8.out.1.p.fz 1; have p2 := O8.out.1.p.cell 2 _ rfl; have f2 := O8.out.1.p.fz 2; have ltP := O8.out.1.p.lt))
  all_goals
    have N9 : Hid (Blk (w.heap.size + 2) 33 (trL R1 R2 (.slice va vm vc)) (((w8.setCell ⟨w.heap.size + 2, 0, none⟩ (.pointer (some ⟨R1, 0, none⟩))).setCell ⟨w.heap.size + 2, 1, none⟩ (.pointer (some ⟨R2, 0, none⟩))).setCell ⟨w.heap.size + 2, 2, none⟩ (.slice va vm vc)) ∧ Below w.heap.size w (((w8.setCell ⟨w.heap.size + 2, 0, none⟩ (.pointer (some ⟨R1, 0, none⟩))).setCell ⟨w.heap.size + 2, 1, none⟩ (.pointer (some ⟨R2, 0, none⟩))).setCell ⟨w.heap.size + 2, 2, none⟩ (.slice va vm vc))) := ⟨((O8.out.1.p.set (i := 0) (.pointer (some ⟨R1, 0, none⟩))).set (i := 1) (.pointer (some ⟨R2, 0, none⟩))).set (i := 2) (.slice va vm vc), set3_below _ _ _ O8.out.2 (by omega)⟩
    clear O8 D0 hU p0 p1 p2 f0 f1 f2 ltP
    go_wp2_with fail
    exact ret_blk_tmp rfl rfl (w.heap.size + 2) _ (trL R1 R2 (.slice va vm vc)) _ rfl N9.out.1 Tryd.underlying33 rfl (infoTr _ _ _) ⟨rfl, N9.out.2⟩

set_option maxRecDepth 20000 in
set_option maxHeartbeats 4000000 in
theorem step_nexts (R1 R2 : Nat) (va : Option Addr) (vm vc : Nat) (ot : Bool) (k : Ky) (n : Int) (w : World)
    (AK : ∀ w', Below w.heap.size w w' → Calls Tryd.prog 23 #[.agg #[.pointer (some ⟨R1, 0, none⟩), .pointer (some ⟨R2, 0, none⟩), (.slice va vm vc)]] w' fun e w2 => e = .returned (.bool true) ∧ Below w'.heap.size w' w2) :
    Calls Tryd.prog 9 #[trV R1 R2 (.slice va vm vc), opV 5 ot k n] w fun e w' => e = .returned (.tuple #[trV R1 R2 (.slice va vm vc), .bool true]) ∧ Below w.heap.size w w' := by
  have HA : Hid (∀ w', Below w.heap.size w w' → Calls Tryd.prog 23 #[.agg #[.pointer (some ⟨R1, 0, none⟩), .pointer (some ⟨R2, 0, none⟩), (.slice va vm vc)]] w' fun e w2 => e = .returned (.bool true) ∧ Below w'.heap.size w' w2) := AK
  have B0 : Hid (Oz w R1 R2 (.slice va vm vc) 5 ot k n (((w.alloc (.cells #[.pointer (some ⟨R1, 0, none⟩), .pointer (some ⟨R2, 0, none⟩), (.slice va vm vc)] 33)).alloc (.cells #[.int .i64 5, .bool ot, .int .i64 k.d, .int .i64 k.l, .int .i64 k.n, .int .i64 n] 26)).alloc (.cells #[.pointer none, .pointer none, .slice none 0 0] 33)) ∧ Below w.heap.size w (((w.alloc (.cells #[.pointer (some ⟨R1, 0, none⟩), .pointer (some ⟨R2, 0, none⟩), (.slice va vm vc)] 33)).alloc (.cells #[.int .i64 5, .bool ot, .int .i64 k.d, .int .i64 k.l, .int .i64 k.n, .int .i64 n] 26)).alloc (.cells #[.pointer none, .pointer none, .slice none 0 0] 33)) ∧ w.heap.size + 3 ≤ (((w.alloc (.cells #[.pointer (some ⟨R1, 0, none⟩), .pointer (some ⟨R2, 0, none⟩), (.slice va vm vc)] 33)).alloc (.cells #[.int .i64 5, .bool ot, .int .i64 k.d, .int .i64 k.l, .int .i64 k.n, .int .i64 n] 26)).alloc (.cells #[.pointer none, .pointer none, .slice none 0 0] 33)).heap.size) := Oz.start w R1 R2 (.slice va vm vc) 5 ot k n
  clear AK
  go_enter Tryd.func9, Tryd.ntmps9
  go_wp2_with fail
  generalize (((w.alloc (.cells #[.pointer (some ⟨R1, 0, none⟩), .pointer (some ⟨R2, 0, none⟩), (.slice va vm vc)] 33)).alloc (.cells #[.int .i64 5, .bool ot, .int .i64 k.d, .int .i64 k.l, .int .i64 k.n, .int .i64 n] 26)).alloc (.cells #[.pointer none, .pointer none, .slice none 0 0] 33)) = W at *
  have S0 : Hid (Oc w R1 R2 (.slice va vm vc) 5 ot k n W.drew) := B0.out.1.oc
  have D0 : Hid (Oz w R1 R2 (.slice va vm vc) 5 ot k n W.drew ∧ Below w.heap.size w W.drew) := ⟨B0.out.1.below (Below.drew (Below.refl _ _)), Below.drew B0.out.2.1⟩
  clear B0
  go_region_held3 (fun w' => Oc w R1 R2 (.slice va vm vc) 5 ot k n w') (first | assumption | exact S0.out | exact Oc.keep hU (by assumption) | exact Oc.set3 _ _ _ (by assumption)) (first
    | (go_at_call 23; refine (HA.out _ D0.out.2).mono ?_; rintro e w8 ⟨rfl, hU⟩; have O8 : Hid (Oz w R1 R2 (.slice va vm vc) 5 ot k n w8 ∧ Below w.heap.size w w8) := ⟨D0.out.1.below hU, below_trans D0.out.2 hU⟩; have p0 := O8.out.1.p.cell 0 _ rfl; have f0 := O8.out.1.p.fz 0; have p1 := O8.out.1.p.cell 1 _ rfl; have f1 := O8.out.1.p.fz 1; have p2 := O8.out.1.p.cell 2 _ rfl; have f2 := O8.out.1.p.fz 2; have ltP := O8.out.1.p.lt))
  all_goals
    have N9 : Hid (Blk (w.heap.size + 2) 33 (trL R1 R2 (.slice va vm vc)) (((w8.setCell ⟨w.heap.size + 2, 0, none⟩ (.pointer (some ⟨R1, 0, none⟩))).setCell ⟨w.heap.size + 2, 1, none⟩ (.pointer (some ⟨R2, 0, none⟩))).setCell ⟨w.heap.size + 2, 2, none⟩ (.slice va vm vc)) ∧ Below w.heap.size w (((w8.setCell ⟨w.heap.size + 2, 0, none⟩ (.pointer (some ⟨R1, 0, none⟩))).setCell ⟨w.heap.size + 2, 1, none⟩ (.pointer (some ⟨R2, 0, none⟩))).setCell ⟨w.heap.size + 2, 2, none⟩ (.slice va vm vc))) := ⟨((O8.out.1.p.set (i := 0) (.pointer (some ⟨R1, 0, none⟩))).set (i := 1) (.pointer (some ⟨R2, 0, none⟩))).set (i := 2) (.slice va vm vc), set3_below _ _ _ O8.out.2 (by omega)⟩
    clear O8 D0 hU p0 p1 p2 f0 f1 f2 ltP
    go_wp2_with fail
    exact ret_blk_tmp rfl rfl (w.heap.size + 2) _ (trL R1 R2 (.slice va vm vc)) _ rfl N9.out.1 Tryd.underlying33 rfl (infoTr _ _ _) ⟨rfl, N9.out.2⟩

set_option maxRecDepth 20000 in
set_option maxHeartbeats 4000000 in
theorem step_lists (R1 R2 : Nat) (va : Option Addr) (vm vc : Nat) (ot : Bool) (k : Ky) (n : Int) (w : World)
    (AK : ∀ w', Below w.heap.size w w' → Calls Tryd.prog 25 #[.agg #[.pointer (some ⟨R1, 0, none⟩), .pointer (some ⟨R2, 0, none⟩), (.slice va vm vc)]] w' fun e w2 => e = .returned (.bool true) ∧ Below w'.heap.size w' w2) :
    Calls Tryd.prog 9 #[trV R1 R2 (.slice va vm vc), opV 7 ot k n] w fun e w' => e = .returned (.tuple #[trV R1 R2 (.slice va vm vc), .bool true]) ∧ Below w.heap.size w w' := by
  have HA : Hid (∀ w', Below w.heap.size w w' → Calls Tryd.prog 25 #[.agg #[.pointer (some ⟨R1, 0, none⟩), .pointer (some ⟨R2, 0, none⟩), (.slice va vm vc)]] w' fun e w2 => e = .returned (.bool true) ∧ Below w'.heap.size w' w2) := AK
  have B0 : Hid (Oz w R1 R2 (.slice va vm vc) 7 ot k n (((w.alloc (.cells #[.pointer (some ⟨R1, 0, none⟩), .pointer (some ⟨R2, 0, none⟩), (.slice va vm vc)] 33)).alloc (.cells #[.int .i64 7, .bool ot, .int .i64 k.d, .int .i64 k.l, .int .i64 k.n, .int .i64 n] 26)).alloc (.cells #[.pointer none, .pointer none, .slice none 0 0] 33)) ∧ Below w.heap.size w (((w.alloc (.cells #[.pointer (some ⟨R1, 0, none⟩), .pointer (some ⟨R2, 0, none⟩), (.slice va vm vc)] 33)).alloc (.cells #[.int .i64 7, .bool ot, .int .i64 k.d, .int .i64 k.l, .int .i64 k.n, .int .i64 n] 26)).alloc (.cells #[.pointer none, .pointer none, .slice none 0 0] 33)) ∧ w.heap.size + 3 ≤ (((w.alloc (.cells #[.pointer (some ⟨R1, 0, none⟩), .pointer (some ⟨R2, 0, none⟩), (.slice va vm vc)] 33)).alloc (.cells #[.int .i64 7, .bool ot, .int .i64 k.d, .int .i64 k.l, .int .i64 k.n, .int .i64 n] 26)).alloc (.cells #[.pointer none, .pointer none, .slice none 0 0] 33)).heap.size) := Oz.start w R1 R2 (.slice va vm vc) 7 ot k n
  clear AK
  go_enter Tryd.func9, Tryd.ntmps9
  go_wp2_with fail
  generalize (((w.alloc (.cells #[.pointer (some ⟨R1, 0, none⟩), .pointer (some ⟨R2, 0, none⟩), (.slice va vm vc)] 33)).alloc (.cells #[.int .i64 7, .bool ot, .int .i64 k.d, .int .i64 k.l, .int .i64 k.n, .int .i64 n] 26)).alloc (.cells #[.pointer none, .pointer none, .slice none 0 0] 33)) = W at *
  have S0 : Hid (Oc w R1 R2 (.slice va vm vc) 7 ot k n W.drew) := B0.out.1.oc
  have D0 : Hid (Oz w R1 R2 (.slice va vm vc) 7 ot k n W.drew ∧ Below w.heap.size w W.drew) := ⟨B0.out.1.below (Below.drew (Below.refl _ _)), Below.drew B0.out.2.1⟩
  clear B0
  go_region_held3 (fun w' => Oc w R1 R2 (.slice va vm vc) 7 ot k n w') (first | assumption | exact S0.out | exact Oc.keep hU (by assumption) | exact Oc.set3 _ _ _ (by assumption)) (first
    | (go_at_call 25; refine (HA.out _ D0.out.2).mono ?_; rintro e w8 ⟨rfl, hU⟩; have O8 : Hid (Oz w R1 R2 (.slice va vm vc) 7 ot k n w8 ∧ Below w.heap.size w w8) := ⟨D0.out.1.below hU, below_trans D0.out.2 hU⟩; have p0 := O8.out.1.p.cell 0 _ rfl; have f0 := O8.out.1.p.fz 0; have p1 := O8.out.1.p.cell 1 _ rfl; have f1 := O8.out.1.p.fz 1; have p2 := O8.out.1.p.cell 2 _ rfl; have f2 := O8.out.1.p.fz 2; have ltP := O8.out.1.p.lt))
  all_goals
    have N9 : Hid (Blk (w.heap.size + 2) 33 (trL R1 R2 (.slice va vm vc)) (((w8.setCell ⟨w.heap.size + 2, 0, none⟩ (.pointer (some ⟨R1, 0, none⟩))).setCell ⟨w.heap.size + 2, 1, none⟩ (.pointer (some ⟨R2, 0, none⟩))).setCell ⟨w.heap.size + 2, 2, none⟩ (.slice va vm vc)) ∧ Below w.heap.size w (((w8.setCell ⟨w.heap.size + 2, 0, none⟩ (.pointer (some ⟨R1, 0, none⟩))).setCell ⟨w.heap.size + 2, 1, none⟩ (.pointer (some ⟨R2, 0, none⟩))).setCell ⟨w.heap.size + 2, 2, none⟩ (.slice va vm vc))) := ⟨((O8.out.1.p.set (i := 0) (.pointer (some ⟨R1, 0, none⟩))).set (i := 1) (.pointer (some ⟨R2, 0, none⟩))).set (i := 2) (.slice va vm vc), set3_below _ _ _ O8.out.2 (by omega)⟩
    clear O8 D0 hU p0 p1 p2 f0 f1 f2 ltP
    go_wp2_with fail
    exact ret_blk_tmp rfl rfl (w.heap.size + 2) _ (trL R1 R2 (.slice va vm vc)) _ rfl N9.out.1 Tryd.underlying33 rfl (infoTr _ _ _) ⟨rfl, N9.out.2⟩

set_option maxRecDepth 20000 in
set_option maxHeartbeats 4000000 in
theorem step_pop (R1 R2 : Nat) (vL : Value) (ot : Bool) (k : Ky) (n : Int) (w : World) (T : Nat → Prop) (hT : ∀ g, T g → g < w.heap.size) (F : Value → World → Prop)
    (PO : ∀ w', Below w.heap.size w w' → w.heap.size + 3 ≤ w'.heap.size → Calls Tryd.prog 24 #[.agg #[.pointer (some ⟨R1, 0, none⟩), .pointer (some ⟨R2, 0, none⟩), vL], .int .i64 n] w' fun e w2 => ∃ a m c, e = .returned (.tuple #[.agg #[.pointer (some ⟨R1, 0, none⟩), .pointer (some ⟨R2, 0, none⟩), .slice a m c], .bool true]) ∧ F (.slice a m c) w2 ∧ Kp T w' w2)
    (c3 : ∀ v w' w2 M, F v w' → Kp M w' w2 → (∀ g, M g → w.heap.size ≤ g ∧ g < w.heap.size + 3) → F v w2) :
    Calls Tryd.prog 9 #[trV R1 R2 vL, opV 6 ot k n] w fun e w' => ∃ vL', e = .returned (.tuple #[trV R1 R2 vL', .bool true]) ∧ F vL' w' := by
  have HT : Hid (∀ g, T g → g < w.heap.size) := hT
  have HP : Hid (∀ w', Below w.heap.size w w' → w.heap.size + 3 ≤ w'.heap.size → Calls Tryd.prog 24 #[.agg #[.pointer (some ⟨R1, 0, none⟩), .pointer (some ⟨R2, 0, none⟩), vL], .int .i64 n] w' fun e w2 => ∃ a m c, e = .returned (.tuple #[.agg #[.pointer (some ⟨R1, 0, none⟩), .pointer (some ⟨R2, 0, none⟩), .slice a m c], .bool true]) ∧ F (.slice a m c) w2 ∧ Kp T w' w2) := PO
  have HC : Hid (∀ v w' w2 M, F v w' → Kp M w' w2 → (∀ g, M g → w.heap.size ≤ g ∧ g < w.heap.size + 3) → F v w2) := c3
  have B0 : Hid (Oz w R1 R2 vL 6 ot k n (((w.alloc (.cells #[.pointer (some ⟨R1, 0, none⟩), .pointer (some ⟨R2, 0, none⟩), vL] 33)).alloc (.cells #[.int .i64 6, .bool ot, .int .i64 k.d, .int .i64 k.l, .int .i64 k.n, .int .i64 n] 26)).alloc (.cells #[.pointer none, .pointer none, .slice none 0 0] 33)) ∧ Below w.heap.size w (((w.alloc (.cells #[.pointer (some ⟨R1, 0, none⟩), .pointer (some ⟨R2, 0, none⟩), vL] 33)).alloc (.cells #[.int .i64 6, .bool ot, .int .i64 k.d, .int .i64 k.l, .int .i64 k.n, .int .i64 n] 26)).alloc (.cells #[.pointer none, .pointer none, .slice none 0 0] 33)) ∧ w.heap.size + 3 ≤ (((w.alloc (.cells #[.pointer (some ⟨R1, 0, none⟩), .pointer (some ⟨R2, 0, none⟩), vL] 33)).alloc (.cells #[.int .i64 6, .bool ot, .int .i64 k.d, .int .i64 k.l, .int .i64 k.n, .int .i64 n] 26)).alloc (.cells #[.pointer none, .pointer none, .slice none 0 0] 33)).heap.size) := Oz.start w R1 R2 vL 6 ot k n
  clear hT PO c3
  go_enter Tryd.func9, Tryd.ntmps9
  go_wp2_with fail
  refine (HP.out _ B0.out.2.1 B0.out.2.2).mono ?_
  rintro e w8 ⟨va, vm, vc, rfl, f8, k8⟩
  have O8 : Hid (Oz w R1 R2 vL 6 ot k n w8 ∧ F (.slice va vm vc) w8) := ⟨B0.out.1.kp HT.out k8, f8⟩
  have p0 := O8.out.1.p.cell 0 _ rfl; have f0 := O8.out.1.p.fz 0; have p1 := O8.out.1.p.cell 1 _ rfl; have f1 := O8.out.1.p.fz 1; have p2 := O8.out.1.p.cell 2 _ rfl; have f2 := O8.out.1.p.fz 2; have ltP := O8.out.1.p.lt
  have N9 : Hid (Blk (w.heap.size + 2) 33 (trL R1 R2 (.slice va vm vc)) (((w8.setCell ⟨w.heap.size + 2, 0, none⟩ (.pointer (some ⟨R1, 0, none⟩))).setCell ⟨w.heap.size + 2, 1, none⟩ (.pointer (some ⟨R2, 0, none⟩))).setCell ⟨w.heap.size + 2, 2, none⟩ (.slice va vm vc)) ∧ F (.slice va vm vc) (((w8.setCell ⟨w.heap.size + 2, 0, none⟩ (.pointer (some ⟨R1, 0, none⟩))).setCell ⟨w.heap.size + 2, 1, none⟩ (.pointer (some ⟨R2, 0, none⟩))).setCell ⟨w.heap.size + 2, 2, none⟩ (.slice va vm vc))) := ⟨((O8.out.1.p.set (i := 0) (.pointer (some ⟨R1, 0, none⟩))).set (i := 1) (.pointer (some ⟨R2, 0, none⟩))).set (i := 2) (.slice va vm vc), HC.out _ _ _ _ O8.out.2 (Kp.of_grown (grownBy_trans (grownBy_trans (setCell_grown w8 _ 0 _) (setCell_grown _ _ 1 _)) (setCell_grown _ _ 2 _))) (fun g e => by injection e with e; omega)⟩
  clear O8 f8 k8 B0 HP HC
  go_wp2_with fail
  exact ret_blk_tmp rfl rfl (w.heap.size + 2) _ (trL R1 R2 (.slice va vm vc)) _ rfl N9.out.1 Tryd.underlying33 rfl (infoTr _ _ _) ⟨_, rfl, N9.out.2⟩

end Go.Proofs.YtfdehlfhnlgcjaaDoor

namespace Go.Proofs.YtfdehlfhnlgcjaaDoor
open Go.RowKit TqM

theorem Kp.belowB {B : Nat} {T : Nat → Prop} {w w' : World} (k : Kp T w w') (hT : ∀ g, T g → B ≤ g) (hB : B ≤ w.heap.size) : Below B w w' := ⟨k.os, k.tape, k.output, k.size, fun i hi => k.block i (Nat.lt_of_lt_of_le hi hB) (fun h => by have := hT i h; omega)⟩
theorem filter_tail {z : Ky × Int} {r : List (Ky × Int)} (h : Sd (z :: r)) : (z :: r).filter (fun x => !decide (x.1 = z.1)) = r := by
  rw [List.filter_cons_of_neg (by simp)]
  refine List.filter_eq_self.2 (fun x hx => ?_)
  have := (List.pairwise_cons.1 h).1 x hx
  have := lt_ne this
  simp
  exact fun e => this e.symm
theorem RowI.shape {base : Nat} {w : World} {v : Value} {xs : List (Ky × Int)} (h : RowI base w v xs) : ∃ a m c, v = .slice a m c := by
  rcases h.2 with ⟨hv, h0⟩ | ⟨g, cap, cur, rfl, _⟩
  · exact ⟨none, 0, 0, hv⟩
  · exact ⟨_, _, _, rfl⟩

theorem pops_not (B R1 R2 N : Nat) (vL : Value) (T : Nat → Prop) (G : List (Ky × Int)) (day : Int) (w : World) (h : Tri B R1 R2 vL T N G w) (hd : ∀ x ∈ G, day < x.1.d) :
    Calls Tryd.prog 24 #[trV R1 R2 vL, .int .i64 day] w fun e w' => ∃ vL', e = .returned (.tuple #[trV R1 R2 vL', .bool true]) ∧ ∃ G', TPo (w.heap.size + 2) B R1 R2 vL' T N w G' w' := by
  obtain ⟨S1, S2, L1, L2, q⟩ := h.q
  have hT : ∀ g, T g → g < w.heap.size := fun g hg => (h.tw g hg).2
  obtain ⟨sa, sm, sc, hv⟩ := q.row.shape
  refine pops_gen R1 R2 vL day w T hT (fun w' => Below w.heap.size w w') (fun w' => Below w.heap.size w w') (fun vL' w' => ∃ G', TPo (w.heap.size + 2) B R1 R2 vL' T N w G' w') ⟨0, 0, 0⟩ 0 ⟨#[]⟩ false ?_ ?_ ?_ ?_ ?_ ?_ (fun _ => ⟨rfl, rfl⟩) (fun e => by cases e)
  · intro w' b _
    have : Calls Tryd.prog 43 #[.pointer (some ⟨R1, 0, none⟩), .int .i64 day] w' (TQ.NotDue w') := by
      cases G with
      | nil =>
        obtain rfl : L1 = [] := q.p1.eq_nil
        exact TQ.pop_none R1 S1 w' day (q.q1.below b)
      | cons x r =>
        have LS := least_map h.sd (by simp)
        exact TQ.pop_late R1 S1 L1 w' day _ (q.q1.below b) (least_perm LS q.p1) (hd _ LS.1)
    exact this.mono (by rintro e w2 ⟨rfl, b2⟩; exact ⟨rfl, below_trans b b2, Kp.of_below b2 T⟩)
  · intro w' b
    have : Calls Tryd.prog 44 #[.pointer (some ⟨R2, 0, none⟩), .int .i64 day] w' (TS.NotDue w') := by
      cases G with
      | nil =>
        obtain rfl : L2 = [] := List.Perm.eq_nil (by simpa using q.p2)
        exact TS.pop_none R2 S2 w' day (q.q2.below b)
      | cons x r =>
        have LS := least_map h.sd (by simp)
        exact TS.pop_late R2 S2 L2 w' day _ (q.q2.below b) (least_permT LS q.p2) (hd _ LS.1)
    exact this.mono (by rintro e w2 ⟨rfl, b2⟩; exact ⟨rfl, below_trans b b2, Kp.of_below b2 T⟩)
  · intro w' b
    have : Calls Tryd.prog 45 #[vL, .int .i64 day] w' (RNot vL w') := by
      cases G with
      | nil => exact rpop_none vL day w' (q.row.rd.later b)
      | cons x r => exact rpop_late (x :: r) vL day w' (q.row.rd.later b) (by simp) (hd x (by simp))
    refine this.mono ?_
    rintro e w2 ⟨rfl, b2⟩
    subst hv
    exact ⟨sa, sm, sc, rfl, ⟨G, TPo.refl h (below_trans b b2)⟩, b2⟩
  · exact fun w' w2 h1 h2 => below_trans h1 h2
  · exact fun w' w2 h1 h2 => below_trans h1 h2
  · rintro vL' w' w2 M ⟨G', h1⟩ k hM
    exact ⟨G', h1.kp hT k hM⟩

theorem pops_yes (B R1 R2 N : Nat) (vL : Value) (T : Nat → Prop) (z : Ky × Int) (r : List (Ky × Int)) (day : Int) (w : World) (hN : N ≤ 1000000000) (hB : B ≤ w.heap.size) (hP : 0 < B) (ht : TabP w) (h : Tri B R1 R2 vL T N (z :: r) w) (hd : z.1.d ≤ day) :
    Calls Tryd.prog 24 #[trV R1 R2 vL, .int .i64 day] w fun e w' => ∃ vL', e = .returned (.tuple #[trV R1 R2 vL', .bool true]) ∧ ∃ G', TPo (w.heap.size + 2) B R1 R2 vL' T N w G' w' := by
  obtain ⟨S1, S2, L1, L2, q⟩ := h.q
  have hT : ∀ g, T g → g < w.heap.size := fun g hg => (h.tw g hg).2
  have hTB : ∀ g, T g → B ≤ g := fun g hg => (h.tw g hg).1
  have LS := least_map h.sd (by simp)
  have g0 : gN (z :: r) 0 = z := rfl
  rw [g0] at LS
  have hl1 : L1.length ≤ 1000000000000 := by have := q.p1.length_eq; have := h.len; omega
  have hl2 : L2.length ≤ 1000000000000 := by have := q.p2.length_eq; have := h.len; simp at this; simp at *; omega
  have hlr : (z :: r).length ≤ 1000000000 := Nat.le_trans h.len hN
  refine pops_gen R1 R2 vL day w T hT (fun w' => ∃ w1 L1', Below w.heap.size w w1 ∧ w.heap.size + 2 ≤ w1.heap.size ∧ TQ.QPost R1 S1 w1 L1' w' ∧ L1'.Perm r) (fun w' => ∃ w1 w2 L1' L2', Below w.heap.size w w1 ∧ w.heap.size + 2 ≤ w1.heap.size ∧ TQ.QPost R1 S1 w1 L1' w2 ∧ L1'.Perm r ∧ TS.QPost R2 S2 w2 L2' w' ∧ L2'.Perm (r.map wdP)) (fun vL' w' => ∃ G', TPo (w.heap.size + 2) B R1 R2 vL' T N w G' w') z.1 z.2 (wdB z.2) true ?_ ?_ ?_ ?_ ?_ ?_ (fun e => by cases e) ?_
  · intro w' b hs
    refine (TQ.pop_yes R1 S1 L1 w' day z (q.q1.below b) hl1 (least_perm LS q.p1) hd).mono ?_
    rintro e w2 ⟨rfl, L', p, q2, k⟩
    exact ⟨rfl, ⟨w', L', b, hs, ⟨S1, q2, fun _ h => .inl h, k⟩, (p.symm.trans q.p1).cons_inv⟩, k.mono (fun g _ hg => q.t1 g hg)⟩
  · rintro w' ⟨w1, L1', b, hs, p1, e1⟩
    have q2 : TS.QAt R2 S2 L2 w' := by
      obtain ⟨S', a1, a2, a3⟩ := p1
      exact (q.q2.below b).kp a3 (fun g hg h1 => q.ap g h1 hg)
    refine (TS.pop_yes R2 S2 L2 w' day (wdP z) q2 hl2 (least_permT LS q.p2) hd).mono ?_
    rintro e w2 ⟨rfl, L', p, q3, k⟩
    exact ⟨rfl, ⟨w1, w', L1', L', b, hs, p1, e1, ⟨S2, q3, fun _ h => .inl h, k⟩, (p.symm.trans q.p2).cons_inv⟩, k.mono (fun g _ hg => q.t2 g hg)⟩
  · rintro w' ⟨w1, w2, L1', L2', b, hs, p1, e1, p2, e2⟩
    have rd : RdI w' vL (z :: r) := by
      obtain ⟨S1', a1, a2, a3⟩ := p1
      obtain ⟨S2', c1, c2, c3⟩ := p2
      have r1 := (q.row.later b).same (fun g hg => a3.block g (Nat.lt_of_lt_of_le (q.row.lt hg) b.size) (q.av g hg).1.1)
      exact (r1.same (fun g hg => c3.block g (r1.lt hg) (q.av g hg).1.2)).rd
    refine (rpop_yes (z :: r) vL day w' hlr rd (by simp) hd).mono ?_
    rintro e w3 ⟨v', rfl, row, b3⟩
    rw [g0, filter_tail h.sd] at row
    obtain ⟨sa, sm, sc, hv⟩ := row.shape
    subst hv
    exact ⟨sa, sm, sc, rfl, ⟨r, tri_after_q hB hs h q b p1 p2 b3 row e1 e2 (List.pairwise_cons.1 h.sd).2 (fun x hx => h.i64 x (by simp [hx])) (by have := h.len; simp at this; omega)⟩, b3⟩
  · rintro w' w2 ⟨w1, L1', h1, h2, h3, h4⟩ b
    obtain ⟨S', a1, a2, a3⟩ := h3
    exact ⟨w1, L1', h1, h2, ⟨S', a1.below b, a2, a3.trans (Kp.of_below b (fun _ => False)) (fun _ _ h => h.elim)⟩, h4⟩
  · rintro w' w3 ⟨w1, w2, L1', L2', h1, h2, h3, h4, h5, h6⟩ b
    obtain ⟨S', a1, a2, a3⟩ := h5
    exact ⟨w1, w2, L1', L2', h1, h2, h3, h4, ⟨S', a1.below b, a2, a3.trans (Kp.of_below b (fun _ => False)) (fun _ _ h => h.elim)⟩, h6⟩
  · rintro vL' w' w2 M ⟨G', h1⟩ k hM
    exact ⟨G', h1.kp hT k hM⟩
  · rintro _ vL' w' ⟨G', T', h1, h2, h3⟩
    exact word_at z.2 (h.i64 z (by simp)) w' (ht.below hP (h3.belowB hTB hB))

theorem pops_at (B R1 R2 N : Nat) (vL : Value) (T : Nat → Prop) (G : List (Ky × Int)) (day : Int) (w : World) (hN : N ≤ 1000000000) (hB : B ≤ w.heap.size) (hP : 0 < B) (ht : TabP w) (h : Tri B R1 R2 vL T N G w) :
    Calls Tryd.prog 24 #[trV R1 R2 vL, .int .i64 day] w fun e w' => ∃ vL', e = .returned (.tuple #[trV R1 R2 vL', .bool true]) ∧ ∃ G', TPo (w.heap.size + 2) B R1 R2 vL' T N w G' w' := by
  cases G with
  | nil => exact pops_not B R1 R2 N vL T [] day w h (fun x hx => by cases hx)
  | cons z r =>
    by_cases hd : z.1.d ≤ day
    · exact pops_yes B R1 R2 N vL T z r day w hN hB hP ht h hd
    · refine pops_not B R1 R2 N vL T (z :: r) day w h (fun x hx => ?_)
      rcases List.mem_cons.1 hx with rfl | hx
      · omega
      · have := (List.pairwise_cons.1 h.sd).1 x hx
        unfold TqM.lt at this
        omega
end Go.Proofs.YtfdehlfhnlgcjaaDoor

namespace Go.Proofs.YtfdehlfhnlgcjaaDoor
open Go.RowKit TqM

/-- A trio that has just been made. -/
def BegQ (B : Nat) (w : World) (e : Ending) (w' : World) : Prop := ∃ R1 R2, e = .returned (.tuple #[trV R1 R2 (.slice none 0 0), .bool true]) ∧ ∃ T, Tri B R1 R2 (.slice none 0 0) T 0 [] w' ∧ (∀ g, T g → w.heap.size ≤ g) ∧ Below w.heap.size w w'
theorem beg_end {B R1 R2 : Nat} {S1 S2 : Nat → Prop} {w w1 w2 w3 : World} (hB : B ≤ w.heap.size) (b0 : w.heap.size + 1 ≤ w1.heap.size) (q1 : TQ.QAt R1 S1 [] w1) (n1 : ∀ g, S1 g → w.heap.size + 1 ≤ g) (q2 : TS.QAt R2 S2 [] w2) (n2 : ∀ g, S2 g → w1.heap.size ≤ g) (b2 : Below w1.heap.size w1 w2) {M : Nat → Prop} (k : Kp M w2 w3) (hM : ∀ g, M g → g = w.heap.size ∨ w2.heap.size ≤ g) (b : Below w.heap.size w w3) : BegQ B w (.returned (.tuple #[trV R1 R2 (.slice none 0 0), .bool true])) w3 := by
  have z1 := q1.s
  have z2 := q2.s
  have s2 := b2.size
  have s3 := k.size
  refine ⟨R1, R2, rfl, fun g => S1 g ∨ S2 g, ⟨⟨S1, S2, [], [], (q1.below b2).kp k (fun g hg hm => ?_), q2.kp k (fun g hg hm => ?_), fun g h => .inl h, fun g h => .inr h, fun g h1 h2 => ?_, fun g hg => (by cases hg), .refl _, .refl _, RowI.nil _ _⟩, fun g hg => ?_, List.Pairwise.nil, fun x hx => (by cases hx), Nat.le_refl _⟩, fun g hg => ?_, b⟩
  · have := n1 g hg; have := z1 g hg
    rcases hM g hm with h | h <;> omega
  · have := n2 g hg; have := z2 g hg
    rcases hM g hm with h | h <;> omega
  · have := z1 g h1; have := n2 g h2; omega
  · rcases hg with h | h
    · have := n1 g h; have := z1 g h; exact ⟨by omega, by omega⟩
    · have := n2 g h; have := z2 g h; exact ⟨by omega, by omega⟩
  · rcases hg with h | h
    · have := n1 g h; omega
    · have := n2 g h; omega

set_option maxRecDepth 20000 in
set_option maxHeartbeats 4000000 in
theorem begin_at (B : Nat) (w : World) (hB : B ≤ w.heap.size) : Calls Tryd.prog 8 #[] w (BegQ B w) := by
  have HB : Hid (B ≤ w.heap.size) := hB
  clear hB
  have NI : Hid (∀ w', Calls Tryd.prog 10 #[] w' (TQ.NewQ w')) := fun w' => TQ.new_at w'
  have NS : Hid (∀ w', Calls Tryd.prog 11 #[] w' (TS.NewQ w')) := fun w' => TS.new_at w'
  have Z0 : Hid (Blk w.heap.size 33 [.pointer none, .pointer none, .slice none 0 0] (w.alloc (.cells #[.pointer none, .pointer none, .slice none 0 0] 33)) ∧ Below w.heap.size w (w.alloc (.cells #[.pointer none, .pointer none, .slice none 0 0] 33)) ∧ (w.alloc (.cells #[.pointer none, .pointer none, .slice none 0 0] 33)).heap.size = w.heap.size + 1) := ⟨Blk.new 33 _ w, below_alloc _ _, by simp⟩
  go_enter Tryd.func8, Tryd.ntmps8
  go_wp2_with fail
  generalize (w.alloc (.cells #[.pointer none, .pointer none, .slice none 0 0] 33)) = w0 at *
  refine (NI.out _).mono ?_
  rintro e w1 ⟨R1, S1, rfl, q1, n1, b1⟩
  have S1' : Hid (TQ.QAt R1 S1 [] w1 ∧ (∀ g, S1 g → w.heap.size + 1 ≤ g) ∧ Blk w.heap.size 33 [.pointer none, .pointer none, .slice none 0 0] w1 ∧ Below w.heap.size w w1 ∧ w.heap.size + 1 ≤ w1.heap.size) := ⟨q1, fun g hg => by have := n1 g hg; rw [Z0.out.2.2] at this; exact this, Z0.out.1.below b1, below_trans Z0.out.2.1 b1, by have := b1.size; rw [Z0.out.2.2] at this; exact this⟩
  clear q1 n1 b1 Z0 NI w0
  go_wp2_with fail
  refine (NS.out _).mono ?_
  rintro e w2 ⟨R2, S2, rfl, q2, n2, b2⟩
  have S2' : Hid (TS.QAt R2 S2 [] w2 ∧ (∀ g, S2 g → w1.heap.size ≤ g) ∧ Blk w.heap.size 33 [.pointer none, .pointer none, .slice none 0 0] w2 ∧ Below w.heap.size w w2 ∧ Below w1.heap.size w1 w2) := ⟨q2, n2, S1'.out.2.2.1.below b2, below_trans S1'.out.2.2.2.1 b2, b2⟩
  clear q2 n2 b2 NS
  have S3' : Hid (Blk w2.heap.size 33 (trL R1 R2 (.slice none 0 0)) (w2.alloc (.cells #[.pointer (some ⟨R1, 0, none⟩), .pointer (some ⟨R2, 0, none⟩), .slice none 0 0] 33)) ∧ Blk w.heap.size 33 [.pointer none, .pointer none, .slice none 0 0] (w2.alloc (.cells #[.pointer (some ⟨R1, 0, none⟩), .pointer (some ⟨R2, 0, none⟩), .slice none 0 0] 33)) ∧ Below w2.heap.size w2 (w2.alloc (.cells #[.pointer (some ⟨R1, 0, none⟩), .pointer (some ⟨R2, 0, none⟩), .slice none 0 0] 33))) := ⟨Blk.new 33 _ w2, S2'.out.2.2.1.below (below_alloc _ _), below_alloc _ _⟩
  go_upto_region 2 with fail
  generalize (w2.alloc (.cells #[.pointer (some ⟨R1, 0, none⟩), .pointer (some ⟨R2, 0, none⟩), .slice none 0 0] 33)) = w3 at *
  have hne : w.heap.size ≠ w2.heap.size := by have := S2'.out.2.2.1.lt; omega
  have hne' : w2.heap.size ≠ w.heap.size := fun e => hne e.symm
  have x0 := S3'.out.1.cell 0 _ rfl
  have x1 := S3'.out.1.cell 1 _ rfl
  have x2 := S3'.out.1.cell 2 _ rfl
  have p0 := S3'.out.2.1.cell 0 _ rfl; have f0 := S3'.out.2.1.fz 0; have p1 := S3'.out.2.1.cell 1 _ rfl; have f1 := S3'.out.2.1.fz 1; have p2 := S3'.out.2.1.cell 2 _ rfl; have f2 := S3'.out.2.1.fz 2; have ltP := S3'.out.2.1.lt
  have N9 : Hid (Blk w.heap.size 33 (trL R1 R2 (.slice none 0 0)) (((w3.setCell ⟨w.heap.size, 0, none⟩ (.pointer (some ⟨R1, 0, none⟩))).setCell ⟨w.heap.size, 1, none⟩ (.pointer (some ⟨R2, 0, none⟩))).setCell ⟨w.heap.size, 2, none⟩ (.slice none 0 0)).drew ∧ BegQ B w (.returned (.tuple #[trV R1 R2 (.slice none 0 0), .bool true])) (((w3.setCell ⟨w.heap.size, 0, none⟩ (.pointer (some ⟨R1, 0, none⟩))).setCell ⟨w.heap.size, 1, none⟩ (.pointer (some ⟨R2, 0, none⟩))).setCell ⟨w.heap.size, 2, none⟩ (.slice none 0 0)).drew) := by
    have st := And.intro (((S3'.out.2.1.set (i := 0) (.pointer (some ⟨R1, 0, none⟩))).set (i := 1) (.pointer (some ⟨R2, 0, none⟩))).set (i := 2) (.slice none 0 0)) (grownBy_trans (grownBy_trans (setCell_grown w3 w.heap.size 0 (.pointer (some ⟨R1, 0, none⟩))) (setCell_grown _ w.heap.size 1 (.pointer (some ⟨R2, 0, none⟩)))) (setCell_grown _ w.heap.size 2 (.slice none 0 0)))
    have kk : Kp (fun g => some w.heap.size = some g) w3 (((w3.setCell ⟨w.heap.size, 0, none⟩ (.pointer (some ⟨R1, 0, none⟩))).setCell ⟨w.heap.size, 1, none⟩ (.pointer (some ⟨R2, 0, none⟩))).setCell ⟨w.heap.size, 2, none⟩ (.slice none 0 0)) := Kp.of_grown st.2
    have bb := (below_trans S2'.out.2.2.2.1 S3'.out.2.2).grown st.2 (below_trans S2'.out.2.2.2.1 S3'.out.2.2).size (fun k e => by cases e; exact Nat.le_refl _)
    generalize (((w3.setCell ⟨w.heap.size, 0, none⟩ (.pointer (some ⟨R1, 0, none⟩))).setCell ⟨w.heap.size, 1, none⟩ (.pointer (some ⟨R2, 0, none⟩))).setCell ⟨w.heap.size, 2, none⟩ (.slice none 0 0)) = w4 at *
    have dr : Below w4.heap.size w4 w4.drew := Below.drew (Below.refl _ _)
    exact ⟨Blk.below st.1 dr, beg_end (M := fun g => some w.heap.size = some g) HB.out S1'.out.2.2.2.2 S1'.out.1 S1'.out.2.1 S2'.out.1 S2'.out.2.1 S2'.out.2.2.2.2 (((Kp.of_below S3'.out.2.2 _).trans kk (fun _ _ h => h)).trans (Kp.of_below dr (fun _ => False)) (fun _ _ h => h.elim)) (fun g hg => by cases hg; exact .inl rfl) (below_trans bb dr)⟩
  clear S1' S2' S3'
  go_region
  go_wp2_with fail
  exact ret_blk_tmp rfl rfl w.heap.size _ (trL R1 R2 (.slice none 0 0)) _ rfl N9.out.1 Tryd.underlying33 rfl (infoTr _ _ _) (by exact N9.out.2)
end Go.Proofs.YtfdehlfhnlgcjaaDoor

namespace Go.Proofs.YtfdehlfhnlgcjaaDoor
open Go.RowKit TqM

structure UpT (w0 : World) (Q1 Q2 R1 R2 R3 R4 : Nat) (va vb : Value) (Ta Tb : Nat → Prop) (Ga Gb : List (Ky × Int)) (N : Nat) (w : World) : Prop where
  b : Below w0.heap.size w0 w
  q1 : Blk Q1 33 (trL R1 R2 va) w
  q2 : Blk Q2 33 (trL R3 R4 vb) w
  t1 : Tri w0.heap.size R1 R2 va Ta N Ga w
  t2 : Tri w0.heap.size R3 R4 vb Tb N Gb w
  ap : ∀ g, Ta g → ¬ Tb g
  n1 : ¬ Ta Q1 ∧ ¬ Ta Q2
  n2 : ¬ Tb Q1 ∧ ¬ Tb Q2
  ne : Q1 ≠ Q2
  l1 : w0.heap.size ≤ Q1
  l2 : w0.heap.size ≤ Q2
theorem UpT.swap {w0 w : World} {Q1 Q2 R1 R2 R3 R4 N : Nat} {va vb : Value} {Ta Tb : Nat → Prop} {Ga Gb : List (Ky × Int)} (h : UpT w0 Q1 Q2 R1 R2 R3 R4 va vb Ta Tb Ga Gb N w) : UpT w0 Q2 Q1 R3 R4 R1 R2 vb va Tb Ta Gb Ga N w :=
  ⟨h.b, h.q2, h.q1, h.t2, h.t1, fun g h1 h2 => h.ap g h2 h1, ⟨h.n2.2, h.n2.1⟩, ⟨h.n1.2, h.n1.1⟩, h.ne.symm, h.l2, h.l1⟩
theorem UpT.below {w0 w w' : World} {Q1 Q2 R1 R2 R3 R4 N : Nat} {va vb : Value} {Ta Tb : Nat → Prop} {Ga Gb : List (Ky × Int)} (h : UpT w0 Q1 Q2 R1 R2 R3 R4 va vb Ta Tb Ga Gb N w) (b : Below w.heap.size w w') : UpT w0 Q1 Q2 R1 R2 R3 R4 va vb Ta Tb Ga Gb N w' :=
  ⟨below_trans h.b b, h.q1.below b, h.q2.below b, h.t1.below b, h.t2.below b, h.ap, h.n1, h.n2, h.ne, h.l1, h.l2⟩
theorem UpT.start {w0 w1 wa w2 w3 : World} {Q1 Q2 R1 R2 R3 R4 : Nat} {Ta Tb : Nat → Prop} (b1 : Below w0.heap.size w0 w1) (t1 : Tri w0.heap.size R1 R2 (.slice none 0 0) Ta 0 [] w1) (e1 : w1.heap.size = Q1) (q1 : Blk Q1 33 (trL R1 R2 (.slice none 0 0)) wa) (ba : Below w1.heap.size w1 wa) (t2 : Tri w0.heap.size R3 R4 (.slice none 0 0) Tb 0 [] w2) (m2 : ∀ g, Tb g → wa.heap.size ≤ g) (b2 : Below wa.heap.size wa w2) (e2 : w2.heap.size = Q2) (q2 : Blk Q2 33 (trL R3 R4 (.slice none 0 0)) w3) (b3 : Below w2.heap.size w2 w3) : UpT w0 Q1 Q2 R1 R2 R3 R4 (.slice none 0 0) (.slice none 0 0) Ta Tb [] [] 0 w3 := by
  have s0 := b1.size
  have sa := ba.size
  have s2 := b2.size
  have s3 := b3.size
  have l1 := q1.lt
  have l2 := q2.lt
  have za : ∀ g, Ta g → g < w1.heap.size := fun g h => (t1.tw g h).2
  have zb : ∀ g, Tb g → g < w2.heap.size := fun g h => (t2.tw g h).2
  refine ⟨below_trans (below_trans (below_trans b1 ba) b2) b3, (q1.below b2).below b3, q2, (t1.below (below_trans ba b2)).below b3, t2.below b3, fun g h1 h2 => ?_, ⟨fun h => ?_, fun h => ?_⟩, ⟨fun h => ?_, fun h => ?_⟩, by omega, by omega, by omega⟩
  · have := za g h1; have := m2 g h2; omega
  · have := za _ h; omega
  · have := za _ h; omega
  · have := m2 _ h; omega
  · have := zb _ h; omega
/-- The first has made a step. -/
theorem UpT.one {w0 w w' w2 : World} {Q1 Q2 R1 R2 R3 R4 N : Nat} {va va' vb : Value} {Ta Tb : Nat → Prop} {Ga Gb Ga' : List (Ky × Int)} (h : UpT w0 Q1 Q2 R1 R2 R3 R4 va vb Ta Tb Ga Gb N w) (p : TPo (w.heap.size + 3) w0.heap.size R1 R2 va' Ta (N + 1) w Ga' w') (q : Blk Q1 33 (trL R1 R2 va') w2) (g2 : w'.grownBy w2 (some Q1)) : ∃ Ta', UpT w0 Q1 Q2 R1 R2 R3 R4 va' vb Ta' Tb Ga' Gb (N + 1) w2 := by
  obtain ⟨T', h1, h2, h3⟩ := p
  have k2 : Kp (fun g => some Q1 = some g) w' w2 := Kp.of_grown g2
  have z2 := h.t2.tw
  have lq1 := h.q1.lt
  have lq2 := h.q2.lt
  have c1 : ¬ T' Q1 := fun e => by
    rcases h2 _ e with e | e
    · exact h.n1.1 e
    · omega
  have c2 : ¬ T' Q2 := fun e => by
    rcases h2 _ e with e | e
    · exact h.n1.2 e
    · omega
  have b0 : Below w0.heap.size w w' := h3.belowB (fun g hg => (h.t1.tw g hg).1) h.b.size
  have b1 : Below w0.heap.size w' w2 := Kp.belowB (T := fun g => some Q1 = some g) k2 (fun g hg => by cases hg; exact h.l1) (Nat.le_trans h.b.size h3.size)
  have bt : Below w0.heap.size w0 w2 := ⟨b1.os.trans (b0.os.trans h.b.os), b1.tape.trans (b0.tape.trans h.b.tape), b1.output.trans (b0.output.trans h.b.output), Nat.le_trans h.b.size (Nat.le_trans b0.size b1.size), fun i hi => (b1.block i hi).trans ((b0.block i hi).trans (h.b.block i hi))⟩
  have ap' : ∀ g, T' g → ¬ Tb g := fun g e1 e2 => by
    rcases h2 g e1 with e | e
    · exact h.ap g e e2
    · have := (z2 g e2).2; omega
  refine ⟨T', bt, q, (h.q2.kp h3 h.n1.2).kp k2 (fun e => by cases e; exact h.ne rfl), h1.kp k2 (fun g hg e => by cases e; exact c1 hg), ((h.t2.kp h3 (fun g hg e => h.ap g e hg)).kp k2 (fun g hg e => by cases e; exact h.n2.1 hg)).mono (Nat.le_succ N), ap', ⟨c1, c2⟩, h.n2, h.ne, h.l1, h.l2⟩
theorem Tri.shape {B R1 R2 N : Nat} {vL : Value} {T : Nat → Prop} {G : List (Ky × Int)} {w : World} (h : Tri B R1 R2 vL T N G w) : ∃ a m c, vL = .slice a m c := by
  obtain ⟨S1, S2, L1, L2, q⟩ := h.q
  exact q.row.shape
theorem TPo.shape {m B R1 R2 N : Nat} {vL : Value} {T : Nat → Prop} {G : List (Ky × Int)} {w w' : World} (h : TPo m B R1 R2 vL T N w G w') : ∃ a m c, vL = .slice a m c := by
  obtain ⟨T', h1, _⟩ := h
  exact h1.shape
end Go.Proofs.YtfdehlfhnlgcjaaDoor

namespace Go.Proofs.YtfdehlfhnlgcjaaDoor
open Go.RowKit TqM

theorem below_kp {w w1 w2 : World} {M : Nat → Prop} (b : Below w.heap.size w w1) (k : Kp M w1 w2) (hM : ∀ g, M g → w.heap.size ≤ g) : Below w.heap.size w w2 :=
  ⟨k.os.trans b.os, k.tape.trans b.tape, k.output.trans b.output, Nat.le_trans b.size k.size, fun i hi => (k.block i (Nat.lt_of_lt_of_le hi b.size) (fun h => by have := hM i h; omega)).trans (b.block i hi)⟩
/-- The reference has answered. -/
def Q0 (w : World) (S1 S2 T : Nat → Prop) (G' : List (Ky × Int)) (v : Value) (w' : World) : Prop := Below w.heap.size w w' ∧ w.heap.size + 3 ≤ w'.heap.size ∧ RowI 0 w' v G' ∧ ∀ g, v.ownBlock = some g → ((¬ S1 g ∧ ¬ S2 g) ∧ T g) ∨ w.heap.size + 3 ≤ g
/-- The queue of numbers has, too. -/
def Q1 (w : World) (R1 : Nat) (S1 S2 T : Nat → Prop) (G' : List (Ky × Int)) (v : Value) (w' : World) : Prop := ∃ w1 L1', Q0 w S1 S2 T G' v w1 ∧ TQ.QPost R1 S1 w1 L1' w' ∧ L1'.Perm G'
theorem Q0.kp {w : World} {S1 S2 T : Nat → Prop} {G' : List (Ky × Int)} {v : Value} {w1 w2 : World} {M : Nat → Prop} (hT : ∀ g, T g → g < w.heap.size) (h : Q0 w S1 S2 T G' v w1) (k : Kp M w1 w2) (hM : ∀ g, M g → w.heap.size ≤ g ∧ g < w.heap.size + 3) : Q0 w S1 S2 T G' v w2 := by
  obtain ⟨h1, h2, h3, h4⟩ := h
  refine ⟨below_kp h1 k (fun g hg => (hM g hg).1), Nat.le_trans h2 k.size, h3.same (fun g hg => k.block g (h3.lt hg) (fun hm => ?_)), h4⟩
  have := hM g hm
  rcases h4 g hg with h5 | h5
  · have := hT g h5.2; omega
  · omega
theorem Q1.below {w : World} {R1 : Nat} {S1 S2 T : Nat → Prop} {G' : List (Ky × Int)} {v : Value} {w1 w2 : World} (h : Q1 w R1 S1 S2 T G' v w1) (b : Below w1.heap.size w1 w2) : Q1 w R1 S1 S2 T G' v w2 := by
  obtain ⟨w0, L1', h1, ⟨S', a1, a2, a3⟩, h3⟩ := h
  exact ⟨w0, L1', h1, ⟨S', a1.below b, a2, a3.trans (Kp.of_below b (fun _ => False)) (fun _ _ h => h.elim)⟩, h3⟩
theorem filter_none {G : List (Ky × Int)} {k : Ky} (h : k ∉ G.map (·.1)) : G.filter (fun x => !decide (x.1 = k)) = G := List.filter_eq_self.2 (fun x hx => by
  simp
  exact fun e => h (List.mem_map.2 ⟨x, hx, e⟩))
theorem filter_perm {k : Ky} {v : Int} : ∀ {G : List (Ky × Int)}, (G.map (·.1)).Nodup → (k, v) ∈ G → G.Perm ((k, v) :: G.filter (fun x => !decide (x.1 = k)))
  | x :: r, hn, hm => by
    have hn' := List.nodup_cons.1 (by simpa using hn : (x.1 :: r.map (·.1)).Nodup)
    rcases List.mem_cons.1 hm with e | hm
    · subst e
      rw [List.filter_cons_of_neg (by simp), filter_none hn'.1]
    · have hne : ¬ x.1 = k := fun e => hn'.1 (List.mem_map.2 ⟨(k, v), hm, e.symm⟩)
      rw [List.filter_cons_of_pos (by simpa using hne)]
      exact ((filter_perm hn'.2 hm).cons x).trans (List.Perm.swap _ _ _)

theorem glue_put (B R1 R2 N : Nat) (vL : Value) (S1 S2 T : Nat → Prop) (L1 : List (Ky × Int)) (L2 : List (Ky × ByteArray)) (G G' : List (Ky × Int)) (ot : Bool) (k : Ky) (n : Int) (w : World) (hB : B ≤ w.heap.size) (hP : 0 < B) (ht : TabP w) (hn : LedM.i64 n) (h : Tri B R1 R2 vL T N G w) (q : TriQ R1 R2 vL S1 S2 T L1 L2 G w) (er : Int) (sd : Sd G') (i64 : ∀ x ∈ G', LedM.i64 x.2) (len : G'.length ≤ N + 1)
    (RP : ∀ w', Below w.heap.size w w' → w.heap.size + 3 ≤ w'.heap.size → Calls Tryd.prog 12 #[vL, .agg #[.int .i64 k.d, .int .i64 k.l, .int .i64 k.n], .int .i64 n] w' fun e w2 => ∃ v, e = .returned (.tuple #[v, .int .i64 er]) ∧ RowI 0 w2 v G' ∧ (∀ g, v.ownBlock = some g → ((¬ S1 g ∧ ¬ S2 g) ∧ T g) ∨ w.heap.size + 3 ≤ g) ∧ Below w'.heap.size w' w2)
    (IP : ∀ w', TQ.QAt R1 S1 L1 w' → Calls Tryd.prog 13 #[.pointer (some ⟨R1, 0, none⟩), .agg #[.int .i64 k.d, .int .i64 k.l, .int .i64 k.n], .int .i64 n] w' fun e w2 => e = .returned (.int .i64 er) ∧ ∃ L1', TQ.QPost R1 S1 w' L1' w2 ∧ L1'.Perm G')
    (TP : ∀ w', TS.QAt R2 S2 L2 w' → Calls Tryd.prog 14 #[.pointer (some ⟨R2, 0, none⟩), .agg #[.int .i64 k.d, .int .i64 k.l, .int .i64 k.n], .string (wdB n)] w' fun e w2 => e = .returned (.int .i64 er) ∧ ∃ L2', TS.QPost R2 S2 w' L2' w2 ∧ L2'.Perm (G'.map wdP)) :
    Calls Tryd.prog 9 #[trV R1 R2 vL, opV 1 ot k n] w fun e w' => ∃ vL', e = .returned (.tuple #[trV R1 R2 vL', .bool true]) ∧ ∃ G', TPo (w.heap.size + 3) B R1 R2 vL' T (N + 1) w G' w' := by
  have hT : ∀ g, T g → g < w.heap.size := fun g hg => (h.tw g hg).2
  have hTB : ∀ g, T g → B ≤ g := fun g hg => (h.tw g hg).1
  refine step_put R1 R2 vL ot k n w T hT (Q0 w S1 S2 T G') (Q1 w R1 S1 S2 T G') (fun v w' => ∃ G', TPo (w.heap.size + 3) B R1 R2 v T (N + 1) w G' w') er (wdB n) ?_ ?_ ?_ ?_ ?_ ?_ ?_
  · intro w' b hs
    refine (RP w' b hs).mono ?_
    rintro e w2 ⟨v, rfl, r, hv, b2⟩
    obtain ⟨sa, sm, sc, e⟩ := r.shape
    subst e
    exact ⟨sa, sm, sc, rfl, ⟨below_trans b b2, Nat.le_trans hs b2.size, r, hv⟩, b2⟩
  · rintro v w' ⟨b, hs, r, hv⟩
    refine (IP w' (q.q1.below b)).mono ?_
    rintro e w2 ⟨rfl, L1', p1, e1⟩
    exact ⟨rfl, ⟨w', L1', ⟨b, hs, r, hv⟩, p1, e1⟩, p1.elim (fun S' h => h.2.2.mono (fun g _ hg => q.t1 g hg))⟩
  · rintro v w' ⟨w1, L1', ⟨b, _, _, _⟩, ⟨S', a1, a2, a3⟩, _⟩
    have k0 : Kp T w w' := (Kp.of_below b T).trans a3 (fun g _ hg => q.t1 g hg)
    exact word_at n hn w' (ht.below hP (k0.belowB hTB hB))
  · rintro v w' ⟨w1, L1', ⟨b, hs, r, hv⟩, p1, e1⟩
    have q2 : TS.QAt R2 S2 L2 w' := by
      obtain ⟨S', a1, a2, a3⟩ := p1
      exact (q.q2.below b).kp a3 (fun g hg h1 => q.ap g h1 hg)
    refine (TP w' q2).mono ?_
    rintro e w2 ⟨rfl, L2', p2, e2⟩
    exact ⟨rfl, ⟨G', tri_after_m hB (by omega) hs h q b r hv p1 p2 e1 e2 sd i64 len⟩, p2.elim (fun S' h => h.2.2.mono (fun g _ hg => q.t2 g hg))⟩
  · exact fun v w' w2 M h1 k0 hM => h1.kp hT k0 hM
  · exact fun v w' w2 h1 b => h1.below b
  · rintro v w' w2 M ⟨G', h1⟩ k0 hM
    exact ⟨G', h1.kp hT k0 hM⟩

theorem glue_cancel (B R1 R2 N : Nat) (vL : Value) (S1 S2 T : Nat → Prop) (L1 : List (Ky × Int)) (L2 : List (Ky × ByteArray)) (G G' : List (Ky × Int)) (ot : Bool) (k : Ky) (n : Int) (w : World) (hB : B ≤ w.heap.size) (hP : 0 < B) (ht : TabP w) (hn : LedM.i64 n) (h : Tri B R1 R2 vL T N G w) (q : TriQ R1 R2 vL S1 S2 T L1 L2 G w) (er : Bool) (sd : Sd G') (i64 : ∀ x ∈ G', LedM.i64 x.2) (len : G'.length ≤ N + 1)
    (RP : ∀ w', Below w.heap.size w w' → w.heap.size + 3 ≤ w'.heap.size → Calls Tryd.prog 17 #[vL, .agg #[.int .i64 k.d, .int .i64 k.l, .int .i64 k.n]] w' fun e w2 => ∃ v, e = .returned (.tuple #[v, .bool er]) ∧ RowI 0 w2 v G' ∧ (∀ g, v.ownBlock = some g → ((¬ S1 g ∧ ¬ S2 g) ∧ T g) ∨ w.heap.size + 3 ≤ g) ∧ Below w'.heap.size w' w2)
    (IP : ∀ w', TQ.QAt R1 S1 L1 w' → Calls Tryd.prog 18 #[.pointer (some ⟨R1, 0, none⟩), .agg #[.int .i64 k.d, .int .i64 k.l, .int .i64 k.n]] w' fun e w2 => e = .returned (.bool er) ∧ ∃ L1', TQ.QPost R1 S1 w' L1' w2 ∧ L1'.Perm G')
    (TP : ∀ w', TS.QAt R2 S2 L2 w' → Calls Tryd.prog 19 #[.pointer (some ⟨R2, 0, none⟩), .agg #[.int .i64 k.d, .int .i64 k.l, .int .i64 k.n]] w' fun e w2 => e = .returned (.bool er) ∧ ∃ L2', TS.QPost R2 S2 w' L2' w2 ∧ L2'.Perm (G'.map wdP)) :
    Calls Tryd.prog 9 #[trV R1 R2 vL, opV 3 ot k n] w fun e w' => ∃ vL', e = .returned (.tuple #[trV R1 R2 vL', .bool true]) ∧ ∃ G', TPo (w.heap.size + 3) B R1 R2 vL' T (N + 1) w G' w' := by
  have hT : ∀ g, T g → g < w.heap.size := fun g hg => (h.tw g hg).2
  have hTB : ∀ g, T g → B ≤ g := fun g hg => (h.tw g hg).1
  refine step_cancel R1 R2 vL ot k n w T hT (Q0 w S1 S2 T G') (Q1 w R1 S1 S2 T G') (fun v w' => ∃ G', TPo (w.heap.size + 3) B R1 R2 v T (N + 1) w G' w') er (wdB n) ?_ ?_ ?_ ?_ ?_ ?_ ?_
  · intro w' b hs
    refine (RP w' b hs).mono ?_
    rintro e w2 ⟨v, rfl, r, hv, b2⟩
    obtain ⟨sa, sm, sc, e⟩ := r.shape
    subst e
    exact ⟨sa, sm, sc, rfl, ⟨below_trans b b2, Nat.le_trans hs b2.size, r, hv⟩, b2⟩
  · rintro v w' ⟨b, hs, r, hv⟩
    refine (IP w' (q.q1.below b)).mono ?_
    rintro e w2 ⟨rfl, L1', p1, e1⟩
    exact ⟨rfl, ⟨w', L1', ⟨b, hs, r, hv⟩, p1, e1⟩, p1.elim (fun S' h => h.2.2.mono (fun g _ hg => q.t1 g hg))⟩
  · rintro v w' ⟨w1, L1', ⟨b, _, _, _⟩, ⟨S', a1, a2, a3⟩, _⟩
    have k0 : Kp T w w' := (Kp.of_below b T).trans a3 (fun g _ hg => q.t1 g hg)
    exact word_at n hn w' (ht.below hP (k0.belowB hTB hB))
  · rintro v w' ⟨w1, L1', ⟨b, hs, r, hv⟩, p1, e1⟩
    have q2 : TS.QAt R2 S2 L2 w' := by
      obtain ⟨S', a1, a2, a3⟩ := p1
      exact (q.q2.below b).kp a3 (fun g hg h1 => q.ap g h1 hg)
    refine (TP w' q2).mono ?_
    rintro e w2 ⟨rfl, L2', p2, e2⟩
    exact ⟨rfl, ⟨G', tri_after_m hB (by omega) hs h q b r hv p1 p2 e1 e2 sd i64 len⟩, p2.elim (fun S' h => h.2.2.mono (fun g _ hg => q.t2 g hg))⟩
  · exact fun v w' w2 M h1 k0 hM => h1.kp hT k0 hM
  · exact fun v w' w2 h1 b => h1.below b
  · rintro v w' w2 M ⟨G', h1⟩ k0 hM
    exact ⟨G', h1.kp hT k0 hM⟩

theorem glue_move (B R1 R2 N : Nat) (vL : Value) (S1 S2 T : Nat → Prop) (L1 : List (Ky × Int)) (L2 : List (Ky × ByteArray)) (G G' : List (Ky × Int)) (ot : Bool) (k : Ky) (n : Int) (w : World) (hB : B ≤ w.heap.size) (hP : 0 < B) (ht : TabP w) (hn : LedM.i64 n) (h : Tri B R1 R2 vL T N G w) (q : TriQ R1 R2 vL S1 S2 T L1 L2 G w) (er : Int) (sd : Sd G') (i64 : ∀ x ∈ G', LedM.i64 x.2) (len : G'.length ≤ N + 1)
    (RP : ∀ w', Below w.heap.size w w' → w.heap.size + 3 ≤ w'.heap.size → Calls Tryd.prog 20 #[vL, .agg #[.int .i64 k.d, .int .i64 k.l, .int .i64 k.n], .int .i64 n] w' fun e w2 => ∃ v, e = .returned (.tuple #[v, .int .i64 er]) ∧ RowI 0 w2 v G' ∧ (∀ g, v.ownBlock = some g → ((¬ S1 g ∧ ¬ S2 g) ∧ T g) ∨ w.heap.size + 3 ≤ g) ∧ Below w'.heap.size w' w2)
    (IP : ∀ w', TQ.QAt R1 S1 L1 w' → Calls Tryd.prog 21 #[.pointer (some ⟨R1, 0, none⟩), .agg #[.int .i64 k.d, .int .i64 k.l, .int .i64 k.n], .int .i64 n] w' fun e w2 => e = .returned (.int .i64 er) ∧ ∃ L1', TQ.QPost R1 S1 w' L1' w2 ∧ L1'.Perm G')
    (TP : ∀ w', TS.QAt R2 S2 L2 w' → Calls Tryd.prog 22 #[.pointer (some ⟨R2, 0, none⟩), .agg #[.int .i64 k.d, .int .i64 k.l, .int .i64 k.n], .int .i64 n] w' fun e w2 => e = .returned (.int .i64 er) ∧ ∃ L2', TS.QPost R2 S2 w' L2' w2 ∧ L2'.Perm (G'.map wdP)) :
    Calls Tryd.prog 9 #[trV R1 R2 vL, opV 4 ot k n] w fun e w' => ∃ vL', e = .returned (.tuple #[trV R1 R2 vL', .bool true]) ∧ ∃ G', TPo (w.heap.size + 3) B R1 R2 vL' T (N + 1) w G' w' := by
  have hT : ∀ g, T g → g < w.heap.size := fun g hg => (h.tw g hg).2
  have hTB : ∀ g, T g → B ≤ g := fun g hg => (h.tw g hg).1
  refine step_move R1 R2 vL ot k n w T hT (Q0 w S1 S2 T G') (Q1 w R1 S1 S2 T G') (fun v w' => ∃ G', TPo (w.heap.size + 3) B R1 R2 v T (N + 1) w G' w') er (wdB n) ?_ ?_ ?_ ?_ ?_ ?_ ?_
  · intro w' b hs
    refine (RP w' b hs).mono ?_
    rintro e w2 ⟨v, rfl, r, hv, b2⟩
    obtain ⟨sa, sm, sc, e⟩ := r.shape
    subst e
    exact ⟨sa, sm, sc, rfl, ⟨below_trans b b2, Nat.le_trans hs b2.size, r, hv⟩, b2⟩
  · rintro v w' ⟨b, hs, r, hv⟩
    refine (IP w' (q.q1.below b)).mono ?_
    rintro e w2 ⟨rfl, L1', p1, e1⟩
    exact ⟨rfl, ⟨w', L1', ⟨b, hs, r, hv⟩, p1, e1⟩, p1.elim (fun S' h => h.2.2.mono (fun g _ hg => q.t1 g hg))⟩
  · rintro v w' ⟨w1, L1', ⟨b, _, _, _⟩, ⟨S', a1, a2, a3⟩, _⟩
    have k0 : Kp T w w' := (Kp.of_below b T).trans a3 (fun g _ hg => q.t1 g hg)
    exact word_at n hn w' (ht.below hP (k0.belowB hTB hB))
  · rintro v w' ⟨w1, L1', ⟨b, hs, r, hv⟩, p1, e1⟩
    have q2 : TS.QAt R2 S2 L2 w' := by
      obtain ⟨S', a1, a2, a3⟩ := p1
      exact (q.q2.below b).kp a3 (fun g hg h1 => q.ap g h1 hg)
    refine (TP w' q2).mono ?_
    rintro e w2 ⟨rfl, L2', p2, e2⟩
    exact ⟨rfl, ⟨G', tri_after_m hB (by omega) hs h q b r hv p1 p2 e1 e2 sd i64 len⟩, p2.elim (fun S' h => h.2.2.mono (fun g _ hg => q.t2 g hg))⟩
  · exact fun v w' w2 M h1 k0 hM => h1.kp hT k0 hM
  · exact fun v w' w2 h1 b => h1.below b
  · rintro v w' w2 M ⟨G', h1⟩ k0 hM
    exact ⟨G', h1.kp hT k0 hM⟩

theorem step_at (B R1 R2 N : Nat) (vL : Value) (T : Nat → Prop) (G : List (Ky × Int)) (kd : Int) (ot : Bool) (k : Ky) (n : Int) (w : World) (hN : N + 1 ≤ 1000000000) (hB : B ≤ w.heap.size) (hP : 0 < B) (ht : TabP w) (hn : LedM.i64 n) (h : Tri B R1 R2 vL T N G w) :
    Calls Tryd.prog 9 #[trV R1 R2 vL, opV kd ot k n] w fun e w' => ∃ vL', e = .returned (.tuple #[trV R1 R2 vL', .bool true]) ∧ ∃ G', TPo (w.heap.size + 3) B R1 R2 vL' T (N + 1) w G' w' := by
  obtain ⟨S1, S2, L1, L2, q⟩ := h.q
  have hlen := h.len
  have ln1 : L1.length = G.length := q.p1.length_eq
  have ln2 : L2.length = G.length := by rw [q.p2.length_eq]; simp
  have hnd := h.sd.nodup
  have m1 : ∀ x, x ∈ L1.map (·.1) ↔ x ∈ G.map (·.1) := fun x => (q.p1.map _).mem_iff
  have m2 : ∀ x, x ∈ L2.map (·.1) ↔ x ∈ G.map (·.1) := fun x => by
    rw [(q.p2.map (·.1)).mem_iff, List.map_map]; rfl
  have i2 : ∀ x v, (x, v) ∈ G → (x, wdB v) ∈ L2 := fun x v hm => q.p2.mem_iff.2 (List.mem_map.2 ⟨(x, v), hm, rfl⟩)
  have rr : ∀ w', Below w.heap.size w w' → RowI 0 w' vL G := fun w' b => q.row.later b
  have rd : ∀ w', Below w.heap.size w w' → RdI w' vL G := fun w' b => (rr w' b).rd
  have hT : ∀ g, T g → g < w.heap.size := fun g hg => (h.tw g hg).2
  have hTB : ∀ g, T g → B ≤ g := fun g hg => (h.tw g hg).1
  obtain ⟨va, vm, vc, hv⟩ := q.row.shape
  have ask : ∀ (e : Ending) w', (e = .returned (.tuple #[trV R1 R2 vL, .bool true]) ∧ Below w.heap.size w w') → ∃ vL', e = .returned (.tuple #[trV R1 R2 vL', .bool true]) ∧ ∃ G', TPo (w.heap.size + 3) B R1 R2 vL' T (N + 1) w G' w' := by
    rintro e w' ⟨rfl, b⟩
    exact ⟨vL, rfl, G, (TPo.refl h b).mono (Nat.le_refl _) (Nat.le_succ N)⟩
  have tab : ∀ w', Below w.heap.size w w' → TabP w' := fun w' b => ht.below hP ((Kp.of_below b T).belowB hTB hB)
  have old : ∀ w' w2 a, Below w.heap.size w w' → Below w'.heap.size w' w2 → ∃ v, Ending.returned (.tuple #[vL, a]) = .returned (.tuple #[v, a]) ∧ RowI 0 w2 v G ∧ (∀ g, v.ownBlock = some g → ((¬ S1 g ∧ ¬ S2 g) ∧ T g) ∨ w.heap.size + 3 ≤ g) ∧ Below w'.heap.size w' w2 := fun w' w2 a b b2 => ⟨vL, rfl, rr w2 (below_trans b b2), fun g hg => .inl (q.av g hg), b2⟩
  have new : ∀ w' w2 a v G', Below w'.heap.size w' w2 → w.heap.size + 3 ≤ w'.heap.size → RowI w'.heap.size w2 v G' → ∃ v', Ending.returned (.tuple #[v, a]) = .returned (.tuple #[v', a]) ∧ RowI 0 w2 v' G' ∧ (∀ g, v'.ownBlock = some g → ((¬ S1 g ∧ ¬ S2 g) ∧ T g) ∨ w.heap.size + 3 ≤ g) ∧ Below w'.heap.size w' w2 := fun w' w2 a v G' b2 hs r => ⟨v, rfl, r.mono (Nat.zero_le _), fun g hg => .inr (Nat.le_trans hs (r.ge hg)), b2⟩
  have i64f : ∀ x ∈ G.filter (fun x => !decide (x.1 = k)), LedM.i64 x.2 := fun x hx => h.i64 x (List.mem_filter.1 hx).1
  have lenf : (G.filter (fun x => !decide (x.1 = k))).length ≤ G.length := List.length_filter_le _ _
  by_cases k1 : kd = 1
  · subst k1
    by_cases hx : k ∈ G.map (·.1)
    · obtain ⟨x, hm⟩ : ∃ x, (k, x) ∈ G := by
        obtain ⟨⟨k0, x⟩, hm, e⟩ := List.mem_map.1 hx
        obtain rfl : k0 = k := e
        exact ⟨x, hm⟩
      refine glue_put B R1 R2 N vL S1 S2 T L1 L2 G G ot k n w hB hP ht hn h q 110 h.sd h.i64 (by omega) ?_ ?_ ?_
      · intro w' b hs
        exact (rput_no G vL k n w' (by omega) (rd w' b) x hm hnd).mono (by rintro e w2 ⟨rfl, b2⟩; exact old w' w2 _ b b2)
      · intro w' h1
        exact (TQ.put_no R1 S1 L1 w' k n h1 ((m1 k).2 hx)).mono (by rintro e w2 ⟨rfl, p⟩; exact ⟨rfl, L1, p, q.p1⟩)
      · intro w' h1
        exact (TS.put_no R2 S2 L2 w' k (wdB n) h1 ((m2 k).2 hx)).mono (by rintro e w2 ⟨rfl, p⟩; exact ⟨rfl, L2, p, q.p2⟩)
    · refine glue_put B R1 R2 N vL S1 S2 T L1 L2 G (ins (k, n) G) ot k n w hB hP ht hn h q 0 (ins_sd h.sd hx) ?_ (by rw [ins_len]; omega) ?_ ?_ ?_
      · intro x hx
        rcases List.mem_cons.1 ((ins_perm _ _).mem_iff.1 hx) with rfl | hx
        · exact hn
        · exact h.i64 x hx
      · intro w' b hs
        exact (rput_yes G vL k n w' (by omega) (rd w' b) hx).mono (by rintro e w2 ⟨v, rfl, r, b2⟩; exact new w' w2 _ v _ b2 hs r)
      · intro w' h1
        exact (TQ.put_yes R1 S1 L1 w' k n h1 (by omega) (fun hm => hx ((m1 k).1 hm))).mono (by rintro e w2 ⟨rfl, p⟩; exact ⟨rfl, _, p, (q.p1.cons _).trans (ins_perm _ _).symm⟩)
      · intro w' h1
        exact (TS.put_yes R2 S2 L2 w' k (wdB n) h1 (by omega) (fun hm => hx ((m2 k).1 hm))).mono (by rintro e w2 ⟨rfl, p⟩; exact ⟨rfl, _, p, (q.p2.cons _).trans ((ins_perm (k, n) G).map wdP).symm⟩)
  by_cases k3 : kd = 3
  · subst k3
    by_cases hx : k ∈ G.map (·.1)
    · obtain ⟨x, hm⟩ : ∃ x, (k, x) ∈ G := by
        obtain ⟨⟨k0, x⟩, hm, e⟩ := List.mem_map.1 hx
        obtain rfl : k0 = k := e
        exact ⟨x, hm⟩
      refine glue_cancel B R1 R2 N vL S1 S2 T L1 L2 G (G.filter (fun x => !decide (x.1 = k))) ot k n w hB hP ht hn h q true (h.sd.filter _) i64f (by omega) ?_ ?_ ?_
      · intro w' b hs
        exact (rcancel_at G vL k w' (by omega) (rd w' b) x true (.inr ⟨rfl, hm, hnd⟩)).mono (by rintro e w2 ⟨v, rfl, r, b2⟩; exact new w' w2 _ v _ b2 hs r)
      · intro w' h1
        exact (TQ.cancel_yes R1 S1 L1 w' k x h1 (by omega) (q.p1.mem_iff.2 hm)).mono (by
          rintro e w2 ⟨rfl, L', p, q2, k2⟩
          exact ⟨rfl, L', ⟨S1, q2, fun _ h => .inl h, k2⟩, ((p.symm.trans q.p1).trans (filter_perm hnd hm)).cons_inv⟩)
      · intro w' h1
        exact (TS.cancel_yes R2 S2 L2 w' k (wdB x) h1 (by omega) (i2 k x hm)).mono (by
          rintro e w2 ⟨rfl, L', p, q2, k2⟩
          exact ⟨rfl, L', ⟨S2, q2, fun _ h => .inl h, k2⟩, ((p.symm.trans q.p2).trans ((filter_perm hnd hm).map wdP)).cons_inv⟩)
    · have fe := filter_none hx
      refine glue_cancel B R1 R2 N vL S1 S2 T L1 L2 G G ot k n w hB hP ht hn h q false h.sd h.i64 (by omega) ?_ ?_ ?_
      · intro w' b hs
        exact (rcancel_at G vL k w' (by omega) (rd w' b) 0 false (.inl ⟨rfl, rfl, hx⟩)).mono (by rintro e w2 ⟨v, rfl, r, b2⟩; rw [fe] at r; exact new w' w2 _ v _ b2 hs r)
      · intro w' h1
        exact (TQ.cancel_no R1 S1 L1 w' k h1 (fun hm => hx ((m1 k).1 hm))).mono (by rintro e w2 ⟨rfl, b⟩; exact ⟨rfl, L1, TQ.QPost.refl h1 b, q.p1⟩)
      · intro w' h1
        exact (TS.cancel_no R2 S2 L2 w' k h1 (fun hm => hx ((m2 k).1 hm))).mono (by rintro e w2 ⟨rfl, b⟩; exact ⟨rfl, L2, TS.QPost.refl h1 b, q.p2⟩)
  by_cases k4 : kd = 4
  · subst k4
    by_cases hx : k ∈ G.map (·.1)
    · obtain ⟨x, hm⟩ : ∃ x, (k, x) ∈ G := by
        obtain ⟨⟨k0, x⟩, hm, e⟩ := List.mem_map.1 hx
        obtain rfl : k0 = k := e
        exact ⟨x, hm⟩
      have h1m := q.p1.mem_iff.2 hm
      have h2m := i2 k x hm
      by_cases hd : n = k.d
      · subst hd
        refine glue_move B R1 R2 N vL S1 S2 T L1 L2 G G ot k k.d w hB hP ht hn h q 0 h.sd h.i64 (by omega) ?_ ?_ ?_
        · intro w' b hs
          exact (rmove_same G vL k w' (by omega) (rd w' b) x hm hnd).mono (by rintro e w2 ⟨rfl, b2⟩; exact old w' w2 _ b b2)
        · intro w' h1
          exact (TQ.move_same R1 S1 L1 w' k x h1 h1m).mono (by rintro e w2 ⟨rfl, b⟩; exact ⟨rfl, L1, TQ.QPost.refl h1 b, q.p1⟩)
        · intro w' h1
          exact (TS.move_same R2 S2 L2 w' k (wdB x) h1 h2m).mono (by rintro e w2 ⟨rfl, b⟩; exact ⟨rfl, L2, TS.QPost.refl h1 b, q.p2⟩)
      by_cases hy : (⟨n, k.l, k.n⟩ : Ky) ∈ G.map (·.1)
      · obtain ⟨y, hym⟩ : ∃ y, ((⟨n, k.l, k.n⟩ : Ky), y) ∈ G := by
          obtain ⟨⟨k0, y⟩, hm, e⟩ := List.mem_map.1 hy
          obtain rfl : k0 = ⟨n, k.l, k.n⟩ := e
          exact ⟨y, hm⟩
        refine glue_move B R1 R2 N vL S1 S2 T L1 L2 G G ot k n w hB hP ht hn h q 110 h.sd h.i64 (by omega) ?_ ?_ ?_
        · intro w' b hs
          exact (rmove_taken G vL k n w' (by omega) (rd w' b) x y hm hnd hd hym).mono (by rintro e w2 ⟨rfl, b2⟩; exact old w' w2 _ b b2)
        · intro w' h1
          exact (TQ.move_taken R1 S1 L1 w' k x n h1 h1m hd ((m1 _).2 hy)).mono (by rintro e w2 ⟨rfl, b⟩; exact ⟨rfl, L1, TQ.QPost.refl h1 b, q.p1⟩)
        · intro w' h1
          exact (TS.move_taken R2 S2 L2 w' k (wdB x) n h1 h2m hd ((m2 _).2 hy)).mono (by rintro e w2 ⟨rfl, b⟩; exact ⟨rfl, L2, TS.QPost.refl h1 b, q.p2⟩)
      · have hyf : (⟨n, k.l, k.n⟩ : Ky) ∉ (G.filter (fun x => !decide (x.1 = k))).map (·.1) := fun hm => by
          obtain ⟨a, ha, e⟩ := List.mem_map.1 hm
          exact hy (List.mem_map.2 ⟨a, (List.mem_filter.1 ha).1, e⟩)
        refine glue_move B R1 R2 N vL S1 S2 T L1 L2 G (ins (⟨n, k.l, k.n⟩, x) (G.filter (fun x => !decide (x.1 = k)))) ot k n w hB hP ht hn h q 0 (ins_sd (h.sd.filter _) hyf) ?_ (by rw [ins_len]; omega) ?_ ?_ ?_
        · intro z hz
          rcases List.mem_cons.1 ((ins_perm _ _).mem_iff.1 hz) with rfl | hz
          · exact h.i64 (k, x) hm
          · exact i64f z hz
        · intro w' b hs
          exact (rmove_yes G vL k n w' (by omega) (rd w' b) x hm hnd hd hy).mono (by rintro e w2 ⟨v, rfl, r, b2⟩; exact new w' w2 _ v _ b2 hs r)
        · intro w' h1
          exact (TQ.move_yes R1 S1 L1 w' k x n h1 h1m hd (by omega) (fun hm => hy ((m1 _).1 hm))).mono (by
            rintro e w2 ⟨rfl, L', p, q2, k2⟩
            exact ⟨rfl, _, ⟨S1, q2, fun _ h => .inl h, k2⟩, (((p.symm.trans q.p1).trans (filter_perm hnd hm)).cons_inv.cons _).trans (ins_perm _ _).symm⟩)
        · intro w' h1
          exact (TS.move_yes R2 S2 L2 w' k (wdB x) n h1 h2m hd (by omega) (fun hm => hy ((m2 _).1 hm))).mono (by
            rintro e w2 ⟨rfl, L', p, q2, k2⟩
            exact ⟨rfl, _, ⟨S2, q2, fun _ h => .inl h, k2⟩, (((p.symm.trans q.p2).trans ((filter_perm hnd hm).map wdP)).cons_inv.cons _).trans ((ins_perm (⟨n, k.l, k.n⟩, x) (G.filter (fun x => !decide (x.1 = k)))).map wdP).symm⟩)
    · refine glue_move B R1 R2 N vL S1 S2 T L1 L2 G G ot k n w hB hP ht hn h q 110 h.sd h.i64 (by omega) ?_ ?_ ?_
      · intro w' b hs
        exact (rmove_no G vL k n w' (by omega) (rd w' b) hx).mono (by rintro e w2 ⟨rfl, b2⟩; exact old w' w2 _ b b2)
      · intro w' h1
        exact (TQ.move_no R1 S1 L1 w' k n h1 (fun hm => hx ((m1 k).1 hm))).mono (by rintro e w2 ⟨rfl, b⟩; exact ⟨rfl, L1, TQ.QPost.refl h1 b, q.p1⟩)
      · intro w' h1
        exact (TS.move_no R2 S2 L2 w' k n h1 (fun hm => hx ((m2 k).1 hm))).mono (by rintro e w2 ⟨rfl, b⟩; exact ⟨rfl, L2, TS.QPost.refl h1 b, q.p2⟩)
  by_cases k6 : kd = 6
  · subst k6
    refine step_pop R1 R2 vL ot k n w T hT (fun v w' => ∃ G', TPo (w.heap.size + 3) B R1 R2 v T (N + 1) w G' w') ?_ ?_
    · intro w' b hs
      refine (pops_at B R1 R2 N vL T G n w' (by omega) (Nat.le_trans hB b.size) hP (tab w' b) (h.below b)).mono ?_
      rintro e w2 ⟨v, rfl, G', T', h1, h2, h3⟩
      obtain ⟨S1', S2', L1', L2', q'⟩ := h1.q
      obtain ⟨sa, sm, sc, e⟩ := q'.row.shape
      subst e
      exact ⟨sa, sm, sc, rfl, ⟨G', T', h1.mono (Nat.le_succ N), fun g hg => (h2 g hg).imp id (fun h => by omega), (Kp.of_below b T).trans h3 (fun _ _ h => h)⟩, h3⟩
    · rintro v w' w2 M ⟨G', h1⟩ k0 hM
      exact ⟨G', h1.kp hT k0 hM⟩
  by_cases k2 : kd = 2
  · subst k2
    subst hv
    refine (step_gets R1 R2 va vm vc ot k n w ?_).mono ask
    intro w' b
    by_cases hx : k ∈ G.map (·.1)
    · obtain ⟨x, hm⟩ : ∃ x, (k, x) ∈ G := by
        obtain ⟨⟨k0, x⟩, hm, e⟩ := List.mem_map.1 hx
        obtain rfl : k0 = k := e
        exact ⟨x, hm⟩
      exact gets_yes B R1 R2 N _ T G k w' (by omega) (h.below b) x hm (tab w' b)
    · exact gets_no B R1 R2 N _ T G k w' (by omega) (h.below b) hx
  by_cases k5 : kd = 5
  · subst k5
    subst hv
    exact (step_nexts R1 R2 va vm vc ot k n w (fun w' b => nexts_at B R1 R2 N _ T G w' (h.below b))).mono ask
  by_cases k7 : kd = 7
  · subst k7
    subst hv
    exact (step_lists R1 R2 va vm vc ot k n w (fun w' b => lists_at B R1 R2 N _ T G w' (by omega) (h.below b))).mono ask
  subst hv
  exact (step_other R1 R2 va vm vc kd ot k n w k1 k2 k3 k4 k5 k6 k7).mono ask
end Go.Proofs.YtfdehlfhnlgcjaaDoor

namespace Go.Proofs.YtfdehlfhnlgcjaaDoor
open Go.RowKit TqM

theorem oneTr {R1 R2 : Nat} {a : Option Addr} {m c : Nat} : ∀ v ∈ trL R1 R2 (.slice a m c), v.oneCell' = true := fun v hv => by
  simp [trL] at hv
  rcases hv with rfl | rfl | rfl <;> rfl

set_option maxRecDepth 20000 in
set_option maxHeartbeats 4000000 in
theorem upTo_at (os : List OpT) (vs : Value) (lo hi : Int) (w : World) (hns : os.length ≤ 100000000) (oko : ∀ o ∈ os, LedM.i64 o.n) (h : RdO w vs os) (ht : TabP w) :
    Calls Tryd.prog 7 #[vs, .int .i64 lo, .int .i64 hi] w fun e w' => e = .returned (.bool true) ∧ Below w.heap.size w w' := by
  obtain ⟨ao, cap, rfl, hcap, hnone, H3⟩ := h
  have OP : Hid (∀ w', Below w.heap.size w w' → ∀ i, i < os.length → ∃ (o : OpT) (g off : Nat), LedM.i64 o.n ∧ ao = some ⟨g, off, none⟩ ∧ w'.rangeAt g (off + i * 6) (opT o)) := fun w' hb i hi => by
    obtain ⟨g, off, e, lt, rg⟩ := H3 i hi
    exact ⟨oN os i, g, off, oko _ (by rw [oN_at hi]; exact List.getElem_mem hi), e, range_later rg lt hb⟩
  have BG : Hid (∀ w', w.heap.size ≤ w'.heap.size → Calls Tryd.prog 8 #[] w' (BegQ w.heap.size w')) := fun w' hb => begin_at _ w' hb
  have ST : Hid (∀ w' R1 R2 N va T G kd ot k n, N + 1 ≤ 1000000000 → Below w.heap.size w w' → LedM.i64 n → Tri w.heap.size R1 R2 va T N G w' → Calls Tryd.prog 9 #[.agg (trL R1 R2 va).toArray, .agg (opL kd ot k n).toArray] w' fun e w2 => ∃ vL', e = .returned (.tuple #[.agg (trL R1 R2 vL').toArray, .bool true]) ∧ ∃ G', TPo (w'.heap.size + 3) w.heap.size R1 R2 vL' T (N + 1) w' G' w2) := fun w' R1 R2 N va T G kd ot k n hN hb hn t => step_at w.heap.size R1 R2 N va T G kd ot k n w' hN hb.size ht.lt (ht.below ht.lt hb) hn t
  clear H3 oko ht
  obtain ⟨n, hn⟩ : ∃ n, os.length = n := ⟨_, rfl⟩
  rw [hn] at OP hns ⊢
  clear hcap hnone hn
  go_enter Tryd.func7, Tryd.ntmps7
  go_wp2_with fail
  refine (BG.out _ (Nat.le_refl _)).mono ?_
  rintro e w1 ⟨R1, R2, rfl, T1, t1, m1, b1⟩
  have HA : Hid (Tri w.heap.size R1 R2 (.slice none 0 0) T1 0 [] w1 ∧ Below w.heap.size w w1 ∧ Blk w1.heap.size 33 (trL R1 R2 (.slice none 0 0)) (w1.alloc (.cells #[.pointer (some ⟨R1, 0, none⟩), .pointer (some ⟨R2, 0, none⟩), .slice none 0 0] 33)) ∧ Below w1.heap.size w1 (w1.alloc (.cells #[.pointer (some ⟨R1, 0, none⟩), .pointer (some ⟨R2, 0, none⟩), .slice none 0 0] 33))) := ⟨t1, b1, Blk.new 33 _ w1, below_alloc _ _⟩
  clear t1 m1 b1
  unfold trV
  go_wp2_with fail
  generalize (w1.alloc (.cells #[.pointer (some ⟨R1, 0, none⟩), .pointer (some ⟨R2, 0, none⟩), .slice none 0 0] 33)) = wa at *
  refine (BG.out _ (Nat.le_trans HA.out.2.1.size HA.out.2.2.2.size)).mono ?_
  rintro e w2 ⟨R3, R4, rfl, T2, t2, m2, b2⟩
  have HU : Hid (UpT w w1.heap.size w2.heap.size R1 R2 R3 R4 (.slice none 0 0) (.slice none 0 0) T1 T2 [] [] 0 (w2.alloc (.cells #[.pointer (some ⟨R3, 0, none⟩), .pointer (some ⟨R4, 0, none⟩), .slice none 0 0] 33))) := UpT.start HA.out.2.1 HA.out.1 rfl HA.out.2.2.1 HA.out.2.2.2 t2 m2 b2 rfl (Blk.new 33 _ w2) (below_alloc _ _)
  clear t2 m2 b2 HA BG
  unfold trV
  go_wp2_with fail
  generalize (w2.alloc (.cells #[.pointer (some ⟨R3, 0, none⟩), .pointer (some ⟨R4, 0, none⟩), .slice none 0 0] 33)) = w3 at *
  generalize w1.heap.size = Q1 at *
  generalize w2.heap.size = Q2 at *
  clear wa w1 w2
  go_loopw [8, 11, 12] (fun vk vi _ wr => ∃ (i : Nat) (va vb : Value) (Ta Tb : Nat → Prop) (Ga Gb : List (Ky × Int)), vk = .bool true ∧ vi = .int .i64 (i : Int) ∧ i ≤ n ∧ Hid (UpT w Q1 Q2 R1 R2 R3 R4 va vb Ta Tb Ga Gb i wr)) (fun _ vi _ _ => n - (intOf vi).toNat)
  case atStart => exact ⟨0, _, _, _, _, _, _, rfl, rfl, by omega, HU.out⟩
  case round =>
    obtain ⟨i, va, vb, Ta, Tb, Ga, Gb, rfl, rfl, hi, U⟩ := hrel
    clear HU
    by_cases hlt : (i : Int) < (n : Int)
    · obtain ⟨o, g, off, okn, rfl, rg⟩ := OP.out wr U.out.b i (by omega)
      have RG : Hid (wr.rangeAt g (off + i * 6) (opT o)) := rg
      have OKN : Hid (LedM.i64 o.n) := okn
      have NB : Hid (Blk wr.heap.size 26 [.int .i64 0, .bool false, .int .i64 0, .int .i64 0, .int .i64 0, .int .i64 0] (wr.alloc (.cells #[.int .i64 0, .bool false, .int .i64 0, .int .i64 0, .int .i64 0, .int .i64 0] 26))) := Blk.new 26 [.int .i64 0, .bool false, .int .i64 0, .int .i64 0, .int .i64 0, .int .i64 0] wr
      clear rg okn OP
      go_upto_region 9 with (first
        | (refine step_load rfl 26 _ rfl g (off + i * 6) rfl (opT o) _ RG.out Tryd.underlying26 rfl (infoO _) ?_)
        | (refine step_store rfl 26 _ _ rfl wr.heap.size 0 26 [.int .i64 0, .bool false, .int .i64 0, .int .i64 0, .int .i64 0, .int .i64 0] (opT o) rfl rfl NB.out (Nat.le_refl _) (infoO _) (oneO _) ?_; intro w5 nb5 g5; have B2 : Hid (Blk wr.heap.size 26 (opT o) w5 ∧ UpT w Q1 Q2 R1 R2 R3 R4 va vb Ta Tb Ga Gb i w5) := ⟨nb5, U.out.below (by have := (below_alloc wr (.cells #[.int .i64 0, .bool false, .int .i64 0, .int .i64 0, .int .i64 0, .int .i64 0] 26)).grown g5 (below_alloc wr (.cells #[.int .i64 0, .bool false, .int .i64 0, .int .i64 0, .int .i64 0, .int .i64 0] 26)).size (fun k e => by cases e; exact Nat.le_refl _); exact this)⟩; clear nb5 g5 NB RG U))
      obtain ⟨kd, ot, k, n0⟩ := o
      obtain ⟨Q, hQ⟩ : ∃ Q, wr.heap.size = Q := ⟨_, rfl⟩
      rw [hQ] at B2 ⊢
      clear hQ
      have c1 := B2.out.1.cell 1 _ rfl
      simp only at c1
      cases ot
      · go_wp2_with (first
          | (refine step_load rfl 33 _ rfl Q1 0 rfl (trL R1 R2 va) _ B2.out.2.q1.all Tryd.underlying33 rfl (infoTr _ _ _) ?_)
          | (refine step_load rfl 26 _ rfl Q 0 rfl (opL kd false k n0) _ B2.out.1.all Tryd.underlying26 rfl (infoO ⟨kd, false, k, n0⟩) ?_))
        refine (ST.out _ R1 R2 i va Ta Ga kd false k n0 (by omega) B2.out.2.b OKN.out B2.out.2.t1).mono ?_
        rintro e w6 ⟨va', rfl, Ga', p⟩
        obtain ⟨sa, sm, sc, hv⟩ := p.shape
        subst hv
        have H6 : Hid (Blk Q1 33 (trL R1 R2 va) w6 ∧ TPo (w5.heap.size + 3) w.heap.size R1 R2 (.slice sa sm sc) Ta (i + 1) w5 Ga' w6) := ⟨p.elim fun T' h => B2.out.2.q1.kp h.2.2 B2.out.2.n1.1, p⟩
        clear p ST c1
        go_upto_region 12 with (refine step_store rfl 33 _ _ rfl Q1 0 33 (trL R1 R2 va) (trL R1 R2 (.slice sa sm sc)) rfl rfl H6.out.1 (Nat.le_refl _) (infoTr _ _ _) oneTr ?_; intro w7 nb7 g7)
        obtain ⟨Ta', U7⟩ := UpT.one B2.out.2 H6.out.2 nb7 g7
        have W7 : Hid (UpT w Q1 Q2 R1 R2 R3 R4 (.slice sa sm sc) vb Ta' Tb Ga' Gb (i + 1) w7) := U7
        clear U7 nb7 g7 H6 B2
        go_wp2_with fail
        go_roundw
        case rel => exact ⟨i + 1, _, _, _, _, _, _, rfl, by go_num, by omega, W7.out⟩
        case measure => simp [intOf]; omega
      · go_wp2_with (first
          | (refine step_load rfl 33 _ rfl Q2 0 rfl (trL R3 R4 vb) _ B2.out.2.q2.all Tryd.underlying33 rfl (infoTr _ _ _) ?_)
          | (refine step_load rfl 26 _ rfl Q 0 rfl (opL kd true k n0) _ B2.out.1.all Tryd.underlying26 rfl (infoO ⟨kd, true, k, n0⟩) ?_))
        refine (ST.out _ R3 R4 i vb Tb Gb kd true k n0 (by omega) B2.out.2.b OKN.out B2.out.2.t2).mono ?_
        rintro e w6 ⟨va', rfl, Ga', p⟩
        obtain ⟨sa, sm, sc, hv⟩ := p.shape
        subst hv
        have H6 : Hid (Blk Q2 33 (trL R3 R4 vb) w6 ∧ TPo (w5.heap.size + 3) w.heap.size R3 R4 (.slice sa sm sc) Tb (i + 1) w5 Ga' w6) := ⟨p.elim fun T' h => B2.out.2.q2.kp h.2.2 B2.out.2.n2.2, p⟩
        clear p ST c1
        go_upto_region 12 with (refine step_store rfl 33 _ _ rfl Q2 0 33 (trL R3 R4 vb) (trL R3 R4 (.slice sa sm sc)) rfl rfl H6.out.1 (Nat.le_refl _) (infoTr _ _ _) oneTr ?_; intro w7 nb7 g7)
        obtain ⟨Ta', U7⟩ := UpT.one B2.out.2.swap H6.out.2 nb7 g7
        have W7 : Hid (UpT w Q2 Q1 R3 R4 R1 R2 (.slice sa sm sc) va Ta' Ta Ga' Ga (i + 1) w7) := U7
        clear U7 nb7 g7 H6 B2
        go_wp2_with fail
        go_roundw
        case rel => exact ⟨i + 1, _, _, _, _, _, _, rfl, by go_num, by omega, W7.out.swap⟩
        case measure => simp [intOf]; omega
    · obtain rfl : i = n := by omega
      have B9 : Hid (Below w.heap.size w wr) := U.out.b
      clear U OP ST
      go_wp2_with fail
      go_ret
      exact ⟨rfl, B9.out⟩
end Go.Proofs.YtfdehlfhnlgcjaaDoor
