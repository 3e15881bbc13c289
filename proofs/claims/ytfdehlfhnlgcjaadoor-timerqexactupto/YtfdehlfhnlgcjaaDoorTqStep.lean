/-
  Ours: the law's step, kind by kind, over contracts.
-/
import Derived.Test.YtfdehlfhnlgcjaaDoorTqPops
namespace Go.Proofs.YtfdehlfhnlgcjaaDoor
open Go.RowKit TqM

def opL (kd : Int) (ot : Bool) (k : Ky) (n : Int) : List Value := [.int .i64 kd, .bool ot, .int .i64 k.d, .int .i64 k.l, .int .i64 k.n, .int .i64 n]
abbrev opV (kd : Int) (ot : Bool) (k : Ky) (n : Int) : Value := .agg #[.int .i64 kd, .bool ot, .int .i64 k.d, .int .i64 k.l, .int .i64 k.n, .int .i64 n]
/-- What step holds in its own memory. -/
structure Oz (w : World) (R1 R2 : Nat) (vL : Value) (kd : Int) (ot : Bool) (k : Ky) (n : Int) (w' : World) : Prop where
  q : Blk w.heap.size 33 (trL R1 R2 vL) w'
  o : Blk (w.heap.size + 1) 26 (opL kd ot k n) w'
  p : Blk (w.heap.size + 2) 33 [.pointer none, .pointer none, .slice none 0 0] w'
theorem Oz.kp {w w1 w2 : World} {R1 R2 : Nat} {vL : Value} {kd : Int} {ot : Bool} {k : Ky} {n : Int} {T : Nat → Prop} (hT : ∀ g, T g → g < w.heap.size) (h : Oz w R1 R2 vL kd ot k n w1) (c : Kp T w1 w2) : Oz w R1 R2 vL kd ot k n w2 := ⟨h.q.kp c (fun e => by have := hT _ e; omega), h.o.kp c (fun e => by have := hT _ e; omega), h.p.kp c (fun e => by have := hT _ e; omega)⟩
theorem Oz.below {w w1 w2 : World} {R1 R2 : Nat} {vL : Value} {kd : Int} {ot : Bool} {k : Ky} {n : Int} (h : Oz w R1 R2 vL kd ot k n w1) (b : Below w1.heap.size w1 w2) : Oz w R1 R2 vL kd ot k n w2 := ⟨h.q.below b, h.o.below b, h.p.below b⟩
theorem Oz.store {w w1 : World} {R1 R2 : Nat} {vL : Value} {kd : Int} {ot : Bool} {k : Ky} {n : Int} (h : Oz w R1 R2 vL kd ot k n w1) (v : Value) : Oz w R1 R2 v kd ot k n (w1.setCell ⟨w.heap.size, 2, none⟩ v) := by
  have g5 := setCell_grown w1 w.heap.size 2 v
  exact ⟨h.q.set (i := 2) v, h.o.grown g5 (fun e => by injection e with e; omega), h.p.grown g5 (fun e => by injection e with e; omega)⟩
/-- The trio and the operation, in a region that draws its order. -/
abbrev Oc (w : World) (R1 R2 : Nat) (vL : Value) (kd : Int) (ot : Bool) (k : Ky) (n : Int) (w' : World) : Prop :=
  w'.cell? ⟨w.heap.size, 0, none⟩ = some (.pointer (some ⟨R1, 0, none⟩)) ∧ w'.cell? ⟨w.heap.size, 1, none⟩ = some (.pointer (some ⟨R2, 0, none⟩)) ∧ w'.cell? ⟨w.heap.size, 2, none⟩ = some vL ∧
  w'.cell? ⟨w.heap.size + 1, 0, none⟩ = some (.int .i64 kd) ∧ w'.cell? ⟨w.heap.size + 1, 1, none⟩ = some (.bool ot) ∧ w'.cell? ⟨w.heap.size + 1, 2, none⟩ = some (.int .i64 k.d) ∧ w'.cell? ⟨w.heap.size + 1, 3, none⟩ = some (.int .i64 k.l) ∧ w'.cell? ⟨w.heap.size + 1, 4, none⟩ = some (.int .i64 k.n) ∧ w'.cell? ⟨w.heap.size + 1, 5, none⟩ = some (.int .i64 n)
theorem Oz.oc {w w' : World} {R1 R2 : Nat} {vL : Value} {kd : Int} {ot : Bool} {k : Ky} {n : Int} (h : Oz w R1 R2 vL kd ot k n w') : Oc w R1 R2 vL kd ot k n w' := ⟨h.q.cell 0 _ rfl, h.q.cell 1 _ rfl, h.q.cell 2 _ rfl, h.o.cell 0 _ rfl, h.o.cell 1 _ rfl, h.o.cell 2 _ rfl, h.o.cell 3 _ rfl, h.o.cell 4 _ rfl, h.o.cell 5 _ rfl⟩
theorem Oz.start (w : World) (R1 R2 : Nat) (vL : Value) (kd : Int) (ot : Bool) (k : Ky) (n : Int) : Oz w R1 R2 vL kd ot k n (((w.alloc (.cells #[.pointer (some ⟨R1, 0, none⟩), .pointer (some ⟨R2, 0, none⟩), vL] 33)).alloc (.cells #[.int .i64 kd, .bool ot, .int .i64 k.d, .int .i64 k.l, .int .i64 k.n, .int .i64 n] 26)).alloc (.cells #[.pointer none, .pointer none, .slice none 0 0] 33)) ∧ Below w.heap.size w (((w.alloc (.cells #[.pointer (some ⟨R1, 0, none⟩), .pointer (some ⟨R2, 0, none⟩), vL] 33)).alloc (.cells #[.int .i64 kd, .bool ot, .int .i64 k.d, .int .i64 k.l, .int .i64 k.n, .int .i64 n] 26)).alloc (.cells #[.pointer none, .pointer none, .slice none 0 0] 33)) ∧ w.heap.size + 3 ≤ (((w.alloc (.cells #[.pointer (some ⟨R1, 0, none⟩), .pointer (some ⟨R2, 0, none⟩), vL] 33)).alloc (.cells #[.int .i64 kd, .bool ot, .int .i64 k.d, .int .i64 k.l, .int .i64 k.n, .int .i64 n] 26)).alloc (.cells #[.pointer none, .pointer none, .slice none 0 0] 33)).heap.size := by
  refine ⟨⟨((Blk3 w R1 R2 vL).old _).old _, (Blk.new2 26 (opL kd ot k n) w _).old _, Blk.new3 33 [.pointer none, .pointer none, .slice none 0 0] w _ _⟩, below_trans (below_trans (below_alloc _ _) (below_alloc _ _)) (below_alloc _ _), by simp⟩

set_option maxRecDepth 20000 in
set_option maxHeartbeats 4000000 in
theorem step_put (R1 R2 : Nat) (vL : Value) (ot : Bool) (k : Ky) (n : Int) (w : World) (T : Nat → Prop) (hT : ∀ g, T g → g < w.heap.size) (P0 P1 F : Value → World → Prop) (er : Int) (s : ByteArray)
    (RP : ∀ w', Below w.heap.size w w' → w.heap.size + 3 ≤ w'.heap.size → Calls Tryd.prog 12 #[vL, .agg #[.int .i64 k.d, .int .i64 k.l, .int .i64 k.n], .int .i64 n] w' fun e w2 => ∃ a m c, e = .returned (.tuple #[.slice a m c, .int .i64 er]) ∧ P0 (.slice a m c) w2 ∧ Below w'.heap.size w' w2)
    (IP : ∀ v w', P0 v w' → Calls Tryd.prog 13 #[.pointer (some ⟨R1, 0, none⟩), .agg #[.int .i64 k.d, .int .i64 k.l, .int .i64 k.n], .int .i64 n] w' fun e w2 => e = .returned (.int .i64 er) ∧ P1 v w2 ∧ Kp T w' w2)
    (WD : ∀ v w', P1 v w' → Calls Tryd.prog 15 #[.int .i64 n] w' fun e w2 => e = .returned (.string s) ∧ Below w'.heap.size w' w2)
    (TP : ∀ v w', P1 v w' → Calls Tryd.prog 14 #[.pointer (some ⟨R2, 0, none⟩), .agg #[.int .i64 k.d, .int .i64 k.l, .int .i64 k.n], .string s] w' fun e w2 => e = .returned (.int .i64 er) ∧ F v w2 ∧ Kp T w' w2)
    (c0 : ∀ v w' w2 M, P0 v w' → Kp M w' w2 → (∀ g, M g → w.heap.size ≤ g ∧ g < w.heap.size + 3) → P0 v w2) (c1 : ∀ v w' w2, P1 v w' → Below w'.heap.size w' w2 → P1 v w2) (c3 : ∀ v w' w2 M, F v w' → Kp M w' w2 → (∀ g, M g → w.heap.size ≤ g ∧ g < w.heap.size + 3) → F v w2) :
    Calls Tryd.prog 9 #[trV R1 R2 vL, opV 1 ot k n] w fun e w' => ∃ vL', e = .returned (.tuple #[trV R1 R2 vL', .bool true]) ∧ F vL' w' := by
  have HT : Hid (∀ g, T g → g < w.heap.size) := hT
  have HR : Hid (∀ w', Below w.heap.size w w' → w.heap.size + 3 ≤ w'.heap.size → Calls Tryd.prog 12 #[vL, .agg #[.int .i64 k.d, .int .i64 k.l, .int .i64 k.n], .int .i64 n] w' fun e w2 => ∃ a m c, e = .returned (.tuple #[.slice a m c, .int .i64 er]) ∧ P0 (.slice a m c) w2 ∧ Below w'.heap.size w' w2) := RP
  have HI : Hid (∀ v w', P0 v w' → Calls Tryd.prog 13 #[.pointer (some ⟨R1, 0, none⟩), .agg #[.int .i64 k.d, .int .i64 k.l, .int .i64 k.n], .int .i64 n] w' fun e w2 => e = .returned (.int .i64 er) ∧ P1 v w2 ∧ Kp T w' w2) := IP
  have HW : Hid (∀ v w', P1 v w' → Calls Tryd.prog 15 #[.int .i64 n] w' fun e w2 => e = .returned (.string s) ∧ Below w'.heap.size w' w2) := WD
  have HX : Hid (∀ v w', P1 v w' → Calls Tryd.prog 14 #[.pointer (some ⟨R2, 0, none⟩), .agg #[.int .i64 k.d, .int .i64 k.l, .int .i64 k.n], .string s] w' fun e w2 => e = .returned (.int .i64 er) ∧ F v w2 ∧ Kp T w' w2) := TP
  have HC : Hid ((∀ v w' w2 M, P0 v w' → Kp M w' w2 → (∀ g, M g → w.heap.size ≤ g ∧ g < w.heap.size + 3) → P0 v w2) ∧ (∀ v w' w2, P1 v w' → Below w'.heap.size w' w2 → P1 v w2) ∧ (∀ v w' w2 M, F v w' → Kp M w' w2 → (∀ g, M g → w.heap.size ≤ g ∧ g < w.heap.size + 3) → F v w2)) := ⟨c0, c1, c3⟩
  have B0 : Hid (Oz w R1 R2 vL 1 ot k n (((w.alloc (.cells #[.pointer (some ⟨R1, 0, none⟩), .pointer (some ⟨R2, 0, none⟩), vL] 33)).alloc (.cells #[.int .i64 1, .bool ot, .int .i64 k.d, .int .i64 k.l, .int .i64 k.n, .int .i64 n] 26)).alloc (.cells #[.pointer none, .pointer none, .slice none 0 0] 33)) ∧ Below w.heap.size w (((w.alloc (.cells #[.pointer (some ⟨R1, 0, none⟩), .pointer (some ⟨R2, 0, none⟩), vL] 33)).alloc (.cells #[.int .i64 1, .bool ot, .int .i64 k.d, .int .i64 k.l, .int .i64 k.n, .int .i64 n] 26)).alloc (.cells #[.pointer none, .pointer none, .slice none 0 0] 33)) ∧ w.heap.size + 3 ≤ (((w.alloc (.cells #[.pointer (some ⟨R1, 0, none⟩), .pointer (some ⟨R2, 0, none⟩), vL] 33)).alloc (.cells #[.int .i64 1, .bool ot, .int .i64 k.d, .int .i64 k.l, .int .i64 k.n, .int .i64 n] 26)).alloc (.cells #[.pointer none, .pointer none, .slice none 0 0] 33)).heap.size) := Oz.start w R1 R2 vL 1 ot k n
  clear hT RP IP WD TP c0 c1 c3
  go_enter Tryd.func9, Tryd.ntmps9
  go_wp2_with fail
  refine (HR.out _ B0.out.2.1 B0.out.2.2).mono ?_
  rintro e w2 ⟨va, vm, vc, rfl, p2, b2⟩
  have O2 : Hid (Oz w R1 R2 vL 1 ot k n w2) := B0.out.1.below b2
  have D3 : Hid (Oz w R1 R2 (.slice va vm vc) 1 ot k n (w2.setCell ⟨w.heap.size, 2, none⟩ (.slice va vm vc)) ∧ P0 (.slice va vm vc) (w2.setCell ⟨w.heap.size, 2, none⟩ (.slice va vm vc))) := ⟨O2.out.store _, HC.out.1 _ _ _ _ p2 (Kp.of_grown (setCell_grown w2 w.heap.size 2 _)) (fun g e => by injection e with e; omega)⟩
  have x0 := O2.out.q.cell 0 _ rfl
  have x1 := O2.out.q.cell 1 _ rfl
  have x2 := O2.out.q.cell 2 _ rfl
  have y0 := O2.out.o.cell 0 _ rfl
  have y1 := O2.out.o.cell 1 _ rfl
  have y2 := O2.out.o.cell 2 _ rfl
  have y3 := O2.out.o.cell 3 _ rfl
  have y4 := O2.out.o.cell 4 _ rfl
  have y5 := O2.out.o.cell 5 _ rfl
  have f2 := O2.out.q.fz 2
  have ltQ := O2.out.q.lt
  have ltO := O2.out.o.lt
  clear p2 b2 B0 HR O2
  go_wp2_with fail
  refine (HI.out _ _ D3.out.2).mono ?_
  rintro e w4 ⟨rfl, p4, k4⟩
  have O4 : Hid (Oz w R1 R2 (.slice va vm vc) 1 ot k n w4 ∧ P1 (.slice va vm vc) w4) := ⟨D3.out.1.kp HT.out k4, p4⟩
  clear f2 ltQ ltO p4 k4 D3 HI
  clear x0 x1 x2 y0 y1 y2 y3 y4 y5
  have x0 := O4.out.1.q.cell 0 _ rfl
  have x1 := O4.out.1.q.cell 1 _ rfl
  have x2 := O4.out.1.q.cell 2 _ rfl
  have y0 := O4.out.1.o.cell 0 _ rfl
  have y1 := O4.out.1.o.cell 1 _ rfl
  have y2 := O4.out.1.o.cell 2 _ rfl
  have y3 := O4.out.1.o.cell 3 _ rfl
  have y4 := O4.out.1.o.cell 4 _ rfl
  have y5 := O4.out.1.o.cell 5 _ rfl
  have S0 : Hid (Oc w R1 R2 (.slice va vm vc) 1 ot k n w4.drew) := O4.out.1.oc
  have P6 : Hid (Oz w R1 R2 (.slice va vm vc) 1 ot k n w4.drew ∧ P1 (.slice va vm vc) w4.drew) := ⟨O4.out.1.below (Below.drew (Below.refl _ _)), HC.out.2.1 _ _ _ O4.out.2 (Below.drew (Below.refl _ _))⟩
  clear O4
  clear x0 x1 x2 y0 y1 y2 y3 y4 y5
  go_upto_region 7 with fail
  go_region_held3 (fun w' => Oc w R1 R2 (.slice va vm vc) 1 ot k n w') (first | assumption | exact S0.out | exact Oz.oc P7.out.1 | exact Oz.oc P8.out.1) (first
    | (go_at_call 15; refine (HW.out _ _ P6.out.2).mono ?_; rintro e w7 ⟨rfl, hU⟩; have P7 : Hid (Oz w R1 R2 (.slice va vm vc) 1 ot k n w7 ∧ P1 (.slice va vm vc) w7) := ⟨P6.out.1.below hU, HC.out.2.1 _ _ _ P6.out.2 hU⟩)
    | (go_at_call 14; refine (HX.out _ _ P7.out.2).mono ?_; rintro e w8 ⟨rfl, f8, k8⟩; have P8 : Hid (Oz w R1 R2 (.slice va vm vc) 1 ot k n w8 ∧ F (.slice va vm vc) w8) := ⟨P7.out.1.kp HT.out k8, f8⟩))
  have O8 : Hid (Oz w R1 R2 (.slice va vm vc) 1 ot k n w8 ∧ F (.slice va vm vc) w8) := P8.out
  clear P6 P7 P8 S0 hU k8 f8 HW HX
  have x0 := O8.out.1.q.cell 0 _ rfl
  have x1 := O8.out.1.q.cell 1 _ rfl
  have x2 := O8.out.1.q.cell 2 _ rfl
  have y0 := O8.out.1.o.cell 0 _ rfl
  have y1 := O8.out.1.o.cell 1 _ rfl
  have y2 := O8.out.1.o.cell 2 _ rfl
  have y3 := O8.out.1.o.cell 3 _ rfl
  have y4 := O8.out.1.o.cell 4 _ rfl
  have y5 := O8.out.1.o.cell 5 _ rfl
  have p0 := O8.out.1.p.cell 0 _ rfl
  have p1 := O8.out.1.p.cell 1 _ rfl
  have p2 := O8.out.1.p.cell 2 _ rfl
  have f0 := O8.out.1.p.fz 0
  have f1 := O8.out.1.p.fz 1
  have f2 := O8.out.1.p.fz 2
  have ltP := O8.out.1.p.lt
  have N9 : Hid (Blk (w.heap.size + 2) 33 (trL R1 R2 (.slice va vm vc)) (((w8.setCell ⟨w.heap.size + 2, 0, none⟩ (.pointer (some ⟨R1, 0, none⟩))).setCell ⟨w.heap.size + 2, 1, none⟩ (.pointer (some ⟨R2, 0, none⟩))).setCell ⟨w.heap.size + 2, 2, none⟩ (.slice va vm vc)) ∧ F (.slice va vm vc) (((w8.setCell ⟨w.heap.size + 2, 0, none⟩ (.pointer (some ⟨R1, 0, none⟩))).setCell ⟨w.heap.size + 2, 1, none⟩ (.pointer (some ⟨R2, 0, none⟩))).setCell ⟨w.heap.size + 2, 2, none⟩ (.slice va vm vc))) := ⟨((O8.out.1.p.set (i := 0) (.pointer (some ⟨R1, 0, none⟩))).set (i := 1) (.pointer (some ⟨R2, 0, none⟩))).set (i := 2) (.slice va vm vc), HC.out.2.2 _ _ _ _ O8.out.2 (Kp.of_grown (grownBy_trans (grownBy_trans (setCell_grown w8 _ 0 _) (setCell_grown _ _ 1 _)) (setCell_grown _ _ 2 _))) (fun g e => by injection e with e; omega)⟩
  clear O8
  go_wp2_with fail
  exact ret_blk_tmp rfl rfl (w.heap.size + 2) _ (trL R1 R2 (.slice va vm vc)) _ rfl N9.out.1 Tryd.underlying33 rfl (infoTr _ _ _) ⟨_, rfl, N9.out.2⟩

set_option maxRecDepth 20000 in
set_option maxHeartbeats 4000000 in
theorem step_cancel (R1 R2 : Nat) (vL : Value) (ot : Bool) (k : Ky) (n : Int) (w : World) (T : Nat → Prop) (hT : ∀ g, T g → g < w.heap.size) (P0 P1 F : Value → World → Prop) (er : Bool) (s : ByteArray)
    (RP : ∀ w', Below w.heap.size w w' → w.heap.size + 3 ≤ w'.heap.size → Calls Tryd.prog 17 #[vL, .agg #[.int .i64 k.d, .int .i64 k.l, .int .i64 k.n]] w' fun e w2 => ∃ a m c, e = .returned (.tuple #[.slice a m c, .bool er]) ∧ P0 (.slice a m c) w2 ∧ Below w'.heap.size w' w2)
    (IP : ∀ v w', P0 v w' → Calls Tryd.prog 18 #[.pointer (some ⟨R1, 0, none⟩), .agg #[.int .i64 k.d, .int .i64 k.l, .int .i64 k.n]] w' fun e w2 => e = .returned (.bool er) ∧ P1 v w2 ∧ Kp T w' w2)
    (WD : ∀ v w', P1 v w' → Calls Tryd.prog 15 #[.int .i64 n] w' fun e w2 => e = .returned (.string s) ∧ Below w'.heap.size w' w2)
    (TP : ∀ v w', P1 v w' → Calls Tryd.prog 19 #[.pointer (some ⟨R2, 0, none⟩), .agg #[.int .i64 k.d, .int .i64 k.l, .int .i64 k.n]] w' fun e w2 => e = .returned (.bool er) ∧ F v w2 ∧ Kp T w' w2)
    (c0 : ∀ v w' w2 M, P0 v w' → Kp M w' w2 → (∀ g, M g → w.heap.size ≤ g ∧ g < w.heap.size + 3) → P0 v w2) (c1 : ∀ v w' w2, P1 v w' → Below w'.heap.size w' w2 → P1 v w2) (c3 : ∀ v w' w2 M, F v w' → Kp M w' w2 → (∀ g, M g → w.heap.size ≤ g ∧ g < w.heap.size + 3) → F v w2) :
    Calls Tryd.prog 9 #[trV R1 R2 vL, opV 3 ot k n] w fun e w' => ∃ vL', e = .returned (.tuple #[trV R1 R2 vL', .bool true]) ∧ F vL' w' := by
  have HT : Hid (∀ g, T g → g < w.heap.size) := hT
  have HR : Hid (∀ w', Below w.heap.size w w' → w.heap.size + 3 ≤ w'.heap.size → Calls Tryd.prog 17 #[vL, .agg #[.int .i64 k.d, .int .i64 k.l, .int .i64 k.n]] w' fun e w2 => ∃ a m c, e = .returned (.tuple #[.slice a m c, .bool er]) ∧ P0 (.slice a m c) w2 ∧ Below w'.heap.size w' w2) := RP
  have HI : Hid (∀ v w', P0 v w' → Calls Tryd.prog 18 #[.pointer (some ⟨R1, 0, none⟩), .agg #[.int .i64 k.d, .int .i64 k.l, .int .i64 k.n]] w' fun e w2 => e = .returned (.bool er) ∧ P1 v w2 ∧ Kp T w' w2) := IP
  have HW : Hid (∀ v w', P1 v w' → Calls Tryd.prog 15 #[.int .i64 n] w' fun e w2 => e = .returned (.string s) ∧ Below w'.heap.size w' w2) := WD
  have HX : Hid (∀ v w', P1 v w' → Calls Tryd.prog 19 #[.pointer (some ⟨R2, 0, none⟩), .agg #[.int .i64 k.d, .int .i64 k.l, .int .i64 k.n]] w' fun e w2 => e = .returned (.bool er) ∧ F v w2 ∧ Kp T w' w2) := TP
  have HC : Hid ((∀ v w' w2 M, P0 v w' → Kp M w' w2 → (∀ g, M g → w.heap.size ≤ g ∧ g < w.heap.size + 3) → P0 v w2) ∧ (∀ v w' w2, P1 v w' → Below w'.heap.size w' w2 → P1 v w2) ∧ (∀ v w' w2 M, F v w' → Kp M w' w2 → (∀ g, M g → w.heap.size ≤ g ∧ g < w.heap.size + 3) → F v w2)) := ⟨c0, c1, c3⟩
  have B0 : Hid (Oz w R1 R2 vL 3 ot k n (((w.alloc (.cells #[.pointer (some ⟨R1, 0, none⟩), .pointer (some ⟨R2, 0, none⟩), vL] 33)).alloc (.cells #[.int .i64 3, .bool ot, .int .i64 k.d, .int .i64 k.l, .int .i64 k.n, .int .i64 n] 26)).alloc (.cells #[.pointer none, .pointer none, .slice none 0 0] 33)) ∧ Below w.heap.size w (((w.alloc (.cells #[.pointer (some ⟨R1, 0, none⟩), .pointer (some ⟨R2, 0, none⟩), vL] 33)).alloc (.cells #[.int .i64 3, .bool ot, .int .i64 k.d, .int .i64 k.l, .int .i64 k.n, .int .i64 n] 26)).alloc (.cells #[.pointer none, .pointer none, .slice none 0 0] 33)) ∧ w.heap.size + 3 ≤ (((w.alloc (.cells #[.pointer (some ⟨R1, 0, none⟩), .pointer (some ⟨R2, 0, none⟩), vL] 33)).alloc (.cells #[.int .i64 3, .bool ot, .int .i64 k.d, .int .i64 k.l, .int .i64 k.n, .int .i64 n] 26)).alloc (.cells #[.pointer none, .pointer none, .slice none 0 0] 33)).heap.size) := Oz.start w R1 R2 vL 3 ot k n
  clear hT RP IP WD TP c0 c1 c3
  go_enter Tryd.func9, Tryd.ntmps9
  go_wp2_with fail
  refine (HR.out _ B0.out.2.1 B0.out.2.2).mono ?_
  rintro e w2 ⟨va, vm, vc, rfl, p2, b2⟩
  have O2 : Hid (Oz w R1 R2 vL 3 ot k n w2) := B0.out.1.below b2
  have D3 : Hid (Oz w R1 R2 (.slice va vm vc) 3 ot k n (w2.setCell ⟨w.heap.size, 2, none⟩ (.slice va vm vc)) ∧ P0 (.slice va vm vc) (w2.setCell ⟨w.heap.size, 2, none⟩ (.slice va vm vc))) := ⟨O2.out.store _, HC.out.1 _ _ _ _ p2 (Kp.of_grown (setCell_grown w2 w.heap.size 2 _)) (fun g e => by injection e with e; omega)⟩
  have x0 := O2.out.q.cell 0 _ rfl
  have x1 := O2.out.q.cell 1 _ rfl
  have x2 := O2.out.q.cell 2 _ rfl
  have y0 := O2.out.o.cell 0 _ rfl
  have y1 := O2.out.o.cell 1 _ rfl
  have y2 := O2.out.o.cell 2 _ rfl
  have y3 := O2.out.o.cell 3 _ rfl
  have y4 := O2.out.o.cell 4 _ rfl
  have y5 := O2.out.o.cell 5 _ rfl
  have f2 := O2.out.q.fz 2
  have ltQ := O2.out.q.lt
  have ltO := O2.out.o.lt
  clear p2 b2 B0 HR O2
  go_wp2_with fail
  refine (HI.out _ _ D3.out.2).mono ?_
  rintro e w4 ⟨rfl, p4, k4⟩
  have O4 : Hid (Oz w R1 R2 (.slice va vm vc) 3 ot k n w4 ∧ P1 (.slice va vm vc) w4) := ⟨D3.out.1.kp HT.out k4, p4⟩
  clear f2 ltQ ltO p4 k4 D3 HI
  clear x0 x1 x2 y0 y1 y2 y3 y4 y5
  have x0 := O4.out.1.q.cell 0 _ rfl
  have x1 := O4.out.1.q.cell 1 _ rfl
  have x2 := O4.out.1.q.cell 2 _ rfl
  have y0 := O4.out.1.o.cell 0 _ rfl
  have y1 := O4.out.1.o.cell 1 _ rfl
  have y2 := O4.out.1.o.cell 2 _ rfl
  have y3 := O4.out.1.o.cell 3 _ rfl
  have y4 := O4.out.1.o.cell 4 _ rfl
  have y5 := O4.out.1.o.cell 5 _ rfl
  go_wp2_with fail
  refine (HX.out _ _ O4.out.2).mono ?_
  rintro e w8 ⟨rfl, f8, k8⟩
  have O8 : Hid (Oz w R1 R2 (.slice va vm vc) 3 ot k n w8 ∧ F (.slice va vm vc) w8) := ⟨O4.out.1.kp HT.out k8, f8⟩
  clear f8 k8 O4 HX HW
  clear x0 x1 x2 y0 y1 y2 y3 y4 y5
  have x0 := O8.out.1.q.cell 0 _ rfl
  have x1 := O8.out.1.q.cell 1 _ rfl
  have x2 := O8.out.1.q.cell 2 _ rfl
  have y0 := O8.out.1.o.cell 0 _ rfl
  have y1 := O8.out.1.o.cell 1 _ rfl
  have y2 := O8.out.1.o.cell 2 _ rfl
  have y3 := O8.out.1.o.cell 3 _ rfl
  have y4 := O8.out.1.o.cell 4 _ rfl
  have y5 := O8.out.1.o.cell 5 _ rfl
  have p0 := O8.out.1.p.cell 0 _ rfl
  have p1 := O8.out.1.p.cell 1 _ rfl
  have p2 := O8.out.1.p.cell 2 _ rfl
  have f0 := O8.out.1.p.fz 0
  have f1 := O8.out.1.p.fz 1
  have f2 := O8.out.1.p.fz 2
  have ltP := O8.out.1.p.lt
  have N9 : Hid (Blk (w.heap.size + 2) 33 (trL R1 R2 (.slice va vm vc)) (((w8.setCell ⟨w.heap.size + 2, 0, none⟩ (.pointer (some ⟨R1, 0, none⟩))).setCell ⟨w.heap.size + 2, 1, none⟩ (.pointer (some ⟨R2, 0, none⟩))).setCell ⟨w.heap.size + 2, 2, none⟩ (.slice va vm vc)) ∧ F (.slice va vm vc) (((w8.setCell ⟨w.heap.size + 2, 0, none⟩ (.pointer (some ⟨R1, 0, none⟩))).setCell ⟨w.heap.size + 2, 1, none⟩ (.pointer (some ⟨R2, 0, none⟩))).setCell ⟨w.heap.size + 2, 2, none⟩ (.slice va vm vc))) := ⟨((O8.out.1.p.set (i := 0) (.pointer (some ⟨R1, 0, none⟩))).set (i := 1) (.pointer (some ⟨R2, 0, none⟩))).set (i := 2) (.slice va vm vc), HC.out.2.2 _ _ _ _ O8.out.2 (Kp.of_grown (grownBy_trans (grownBy_trans (setCell_grown w8 _ 0 _) (setCell_grown _ _ 1 _)) (setCell_grown _ _ 2 _))) (fun g e => by injection e with e; omega)⟩
  clear O8
  go_wp2_with fail
  exact ret_blk_tmp rfl rfl (w.heap.size + 2) _ (trL R1 R2 (.slice va vm vc)) _ rfl N9.out.1 Tryd.underlying33 rfl (infoTr _ _ _) ⟨_, rfl, N9.out.2⟩

set_option maxRecDepth 20000 in
set_option maxHeartbeats 4000000 in
theorem step_move (R1 R2 : Nat) (vL : Value) (ot : Bool) (k : Ky) (n : Int) (w : World) (T : Nat → Prop) (hT : ∀ g, T g → g < w.heap.size) (P0 P1 F : Value → World → Prop) (er : Int) (s : ByteArray)
    (RP : ∀ w', Below w.heap.size w w' → w.heap.size + 3 ≤ w'.heap.size → Calls Tryd.prog 20 #[vL, .agg #[.int .i64 k.d, .int .i64 k.l, .int .i64 k.n], .int .i64 n] w' fun e w2 => ∃ a m c, e = .returned (.tuple #[.slice a m c, .int .i64 er]) ∧ P0 (.slice a m c) w2 ∧ Below w'.heap.size w' w2)
    (IP : ∀ v w', P0 v w' → Calls Tryd.prog 21 #[.pointer (some ⟨R1, 0, none⟩), .agg #[.int .i64 k.d, .int .i64 k.l, .int .i64 k.n], .int .i64 n] w' fun e w2 => e = .returned (.int .i64 er) ∧ P1 v w2 ∧ Kp T w' w2)
    (WD : ∀ v w', P1 v w' → Calls Tryd.prog 15 #[.int .i64 n] w' fun e w2 => e = .returned (.string s) ∧ Below w'.heap.size w' w2)
    (TP : ∀ v w', P1 v w' → Calls Tryd.prog 22 #[.pointer (some ⟨R2, 0, none⟩), .agg #[.int .i64 k.d, .int .i64 k.l, .int .i64 k.n], .int .i64 n] w' fun e w2 => e = .returned (.int .i64 er) ∧ F v w2 ∧ Kp T w' w2)
    (c0 : ∀ v w' w2 M, P0 v w' → Kp M w' w2 → (∀ g, M g → w.heap.size ≤ g ∧ g < w.heap.size + 3) → P0 v w2) (c1 : ∀ v w' w2, P1 v w' → Below w'.heap.size w' w2 → P1 v w2) (c3 : ∀ v w' w2 M, F v w' → Kp M w' w2 → (∀ g, M g → w.heap.size ≤ g ∧ g < w.heap.size + 3) → F v w2) :
    Calls Tryd.prog 9 #[trV R1 R2 vL, opV 4 ot k n] w fun e w' => ∃ vL', e = .returned (.tuple #[trV R1 R2 vL', .bool true]) ∧ F vL' w' := by
  have HT : Hid (∀ g, T g → g < w.heap.size) := hT
  have HR : Hid (∀ w', Below w.heap.size w w' → w.heap.size + 3 ≤ w'.heap.size → Calls Tryd.prog 20 #[vL, .agg #[.int .i64 k.d, .int .i64 k.l, .int .i64 k.n], .int .i64 n] w' fun e w2 => ∃ a m c, e = .returned (.tuple #[.slice a m c, .int .i64 er]) ∧ P0 (.slice a m c) w2 ∧ Below w'.heap.size w' w2) := RP
  have HI : Hid (∀ v w', P0 v w' → Calls Tryd.prog 21 #[.pointer (some ⟨R1, 0, none⟩), .agg #[.int .i64 k.d, .int .i64 k.l, .int .i64 k.n], .int .i64 n] w' fun e w2 => e = .returned (.int .i64 er) ∧ P1 v w2 ∧ Kp T w' w2) := IP
  have HW : Hid (∀ v w', P1 v w' → Calls Tryd.prog 15 #[.int .i64 n] w' fun e w2 => e = .returned (.string s) ∧ Below w'.heap.size w' w2) := WD
  have HX : Hid (∀ v w', P1 v w' → Calls Tryd.prog 22 #[.pointer (some ⟨R2, 0, none⟩), .agg #[.int .i64 k.d, .int .i64 k.l, .int .i64 k.n], .int .i64 n] w' fun e w2 => e = .returned (.int .i64 er) ∧ F v w2 ∧ Kp T w' w2) := TP
  have HC : Hid ((∀ v w' w2 M, P0 v w' → Kp M w' w2 → (∀ g, M g → w.heap.size ≤ g ∧ g < w.heap.size + 3) → P0 v w2) ∧ (∀ v w' w2, P1 v w' → Below w'.heap.size w' w2 → P1 v w2) ∧ (∀ v w' w2 M, F v w' → Kp M w' w2 → (∀ g, M g → w.heap.size ≤ g ∧ g < w.heap.size + 3) → F v w2)) := ⟨c0, c1, c3⟩
  have B0 : Hid (Oz w R1 R2 vL 4 ot k n (((w.alloc (.cells #[.pointer (some ⟨R1, 0, none⟩), .pointer (some ⟨R2, 0, none⟩), vL] 33)).alloc (.cells #[.int .i64 4, .bool ot, .int .i64 k.d, .int .i64 k.l, .int .i64 k.n, .int .i64 n] 26)).alloc (.cells #[.pointer none, .pointer none, .slice none 0 0] 33)) ∧ Below w.heap.size w (((w.alloc (.cells #[.pointer (some ⟨R1, 0, none⟩), .pointer (some ⟨R2, 0, none⟩), vL] 33)).alloc (.cells #[.int .i64 4, .bool ot, .int .i64 k.d, .int .i64 k.l, .int .i64 k.n, .int .i64 n] 26)).alloc (.cells #[.pointer none, .pointer none, .slice none 0 0] 33)) ∧ w.heap.size + 3 ≤ (((w.alloc (.cells #[.pointer (some ⟨R1, 0, none⟩), .pointer (some ⟨R2, 0, none⟩), vL] 33)).alloc (.cells #[.int .i64 4, .bool ot, .int .i64 k.d, .int .i64 k.l, .int .i64 k.n, .int .i64 n] 26)).alloc (.cells #[.pointer none, .pointer none, .slice none 0 0] 33)).heap.size) := Oz.start w R1 R2 vL 4 ot k n
  clear hT RP IP WD TP c0 c1 c3
  go_enter Tryd.func9, Tryd.ntmps9
  go_wp2_with fail
  refine (HR.out _ B0.out.2.1 B0.out.2.2).mono ?_
  rintro e w2 ⟨va, vm, vc, rfl, p2, b2⟩
  have O2 : Hid (Oz w R1 R2 vL 4 ot k n w2) := B0.out.1.below b2
  have D3 : Hid (Oz w R1 R2 (.slice va vm vc) 4 ot k n (w2.setCell ⟨w.heap.size, 2, none⟩ (.slice va vm vc)) ∧ P0 (.slice va vm vc) (w2.setCell ⟨w.heap.size, 2, none⟩ (.slice va vm vc))) := ⟨O2.out.store _, HC.out.1 _ _ _ _ p2 (Kp.of_grown (setCell_grown w2 w.heap.size 2 _)) (fun g e => by injection e with e; omega)⟩
  have x0 := O2.out.q.cell 0 _ rfl
  have x1 := O2.out.q.cell 1 _ rfl
  have x2 := O2.out.q.cell 2 _ rfl
  have y0 := O2.out.o.cell 0 _ rfl
  have y1 := O2.out.o.cell 1 _ rfl
  have y2 := O2.out.o.cell 2 _ rfl
  have y3 := O2.out.o.cell 3 _ rfl
  have y4 := O2.out.o.cell 4 _ rfl
  have y5 := O2.out.o.cell 5 _ rfl
  have f2 := O2.out.q.fz 2
  have ltQ := O2.out.q.lt
  have ltO := O2.out.o.lt
  clear p2 b2 B0 HR O2
  go_wp2_with fail
  refine (HI.out _ _ D3.out.2).mono ?_
  rintro e w4 ⟨rfl, p4, k4⟩
  have O4 : Hid (Oz w R1 R2 (.slice va vm vc) 4 ot k n w4 ∧ P1 (.slice va vm vc) w4) := ⟨D3.out.1.kp HT.out k4, p4⟩
  clear f2 ltQ ltO p4 k4 D3 HI
  clear x0 x1 x2 y0 y1 y2 y3 y4 y5
  have x0 := O4.out.1.q.cell 0 _ rfl
  have x1 := O4.out.1.q.cell 1 _ rfl
  have x2 := O4.out.1.q.cell 2 _ rfl
  have y0 := O4.out.1.o.cell 0 _ rfl
  have y1 := O4.out.1.o.cell 1 _ rfl
  have y2 := O4.out.1.o.cell 2 _ rfl
  have y3 := O4.out.1.o.cell 3 _ rfl
  have y4 := O4.out.1.o.cell 4 _ rfl
  have y5 := O4.out.1.o.cell 5 _ rfl
  go_wp2_with fail
  refine (HX.out _ _ O4.out.2).mono ?_
  rintro e w8 ⟨rfl, f8, k8⟩
  have O8 : Hid (Oz w R1 R2 (.slice va vm vc) 4 ot k n w8 ∧ F (.slice va vm vc) w8) := ⟨O4.out.1.kp HT.out k8, f8⟩
  clear f8 k8 O4 HX HW
  clear x0 x1 x2 y0 y1 y2 y3 y4 y5
  have x0 := O8.out.1.q.cell 0 _ rfl
  have x1 := O8.out.1.q.cell 1 _ rfl
  have x2 := O8.out.1.q.cell 2 _ rfl
  have y0 := O8.out.1.o.cell 0 _ rfl
  have y1 := O8.out.1.o.cell 1 _ rfl
  have y2 := O8.out.1.o.cell 2 _ rfl
  have y3 := O8.out.1.o.cell 3 _ rfl
  have y4 := O8.out.1.o.cell 4 _ rfl
  have y5 := O8.out.1.o.cell 5 _ rfl
  have p0 := O8.out.1.p.cell 0 _ rfl
  have p1 := O8.out.1.p.cell 1 _ rfl
  have p2 := O8.out.1.p.cell 2 _ rfl
  have f0 := O8.out.1.p.fz 0
  have f1 := O8.out.1.p.fz 1
  have f2 := O8.out.1.p.fz 2
  have ltP := O8.out.1.p.lt
  have N9 : Hid (Blk (w.heap.size + 2) 33 (trL R1 R2 (.slice va vm vc)) (((w8.setCell ⟨w.heap.size + 2, 0, none⟩ (.pointer (some ⟨R1, 0, none⟩))).setCell ⟨w.heap.size + 2, 1, none⟩ (.pointer (some ⟨R2, 0, none⟩))).setCell ⟨w.heap.size + 2, 2, none⟩ (.slice va vm vc)) ∧ F (.slice va vm vc) (((w8.setCell ⟨w.heap.size + 2, 0, none⟩ (.pointer (some ⟨R1, 0, none⟩))).setCell ⟨w.heap.size + 2, 1, none⟩ (.pointer (some ⟨R2, 0, none⟩))).setCell ⟨w.heap.size + 2, 2, none⟩ (.slice va vm vc))) := ⟨((O8.out.1.p.set (i := 0) (.pointer (some ⟨R1, 0, none⟩))).set (i := 1) (.pointer (some ⟨R2, 0, none⟩))).set (i := 2) (.slice va vm vc), HC.out.2.2 _ _ _ _ O8.out.2 (Kp.of_grown (grownBy_trans (grownBy_trans (setCell_grown w8 _ 0 _) (setCell_grown _ _ 1 _)) (setCell_grown _ _ 2 _))) (fun g e => by injection e with e; omega)⟩
  clear O8
  go_wp2_with fail
  exact ret_blk_tmp rfl rfl (w.heap.size + 2) _ (trL R1 R2 (.slice va vm vc)) _ rfl N9.out.1 Tryd.underlying33 rfl (infoTr _ _ _) ⟨_, rfl, N9.out.2⟩

end Go.Proofs.YtfdehlfhnlgcjaaDoor
