/-
  Ours: the law's pops.
-/
import Derived.Test.YtfdehlfhnlgcjaaDoorTqTp
namespace Go.Proofs.YtfdehlfhnlgcjaaDoor
open Go.RowKit TqM

/-- What pops holds in its own memory. -/
structure Pz (w : World) (R1 R2 : Nat) (vL : Value) (w' : World) : Prop where
  q : Blk w.heap.size 33 (trL R1 R2 vL) w'
  p : Blk (w.heap.size + 1) 33 [.pointer none, .pointer none, .slice none 0 0] w'
theorem Pz.kp {w w1 w2 : World} {R1 R2 : Nat} {vL : Value} {T : Nat → Prop} (hT : ∀ g, T g → g < w.heap.size) (h : Pz w R1 R2 vL w1) (k : Kp T w1 w2) : Pz w R1 R2 vL w2 := ⟨h.q.kp k (fun e => by have := hT _ e; omega), h.p.kp k (fun e => by have := hT _ e; omega)⟩
theorem Pz.below {w w1 w2 : World} {R1 R2 : Nat} {vL : Value} (h : Pz w R1 R2 vL w1) (b : Below w1.heap.size w1 w2) : Pz w R1 R2 vL w2 := ⟨h.q.below b, h.p.below b⟩
theorem key_kp {w w1 w2 : World} {K : Nat} {z : Ky} {T : Nat → Prop} (hT : ∀ g, T g → g < w.heap.size) (h : Blk K 24 (kyL z) w1) (hK : w.heap.size ≤ K) (k : Kp T w1 w2) : Blk K 24 (kyL z) w2 := h.kp k (fun e => by have := hT _ e; omega)

/-- What a return of a trio reads, in a region that draws its order; P: the answer's block. -/
abbrev Sz (W : World) (P Q K J M R1 R2 : Nat) (vL : Value) (z : Ky) (w' : World) : Prop := Kp (fun g => g = P) W w' ∧
  w'.cell? ⟨Q, 0, none⟩ = some (.pointer (some ⟨R1, 0, none⟩)) ∧ w'.cell? ⟨Q, 1, none⟩ = some (.pointer (some ⟨R2, 0, none⟩)) ∧ w'.cell? ⟨Q, 2, none⟩ = some vL ∧
  w'.cell? ⟨K, 0, none⟩ = some (.int .i64 z.d) ∧ w'.cell? ⟨K, 1, none⟩ = some (.int .i64 z.l) ∧ w'.cell? ⟨K, 2, none⟩ = some (.int .i64 z.n) ∧
  w'.cell? ⟨J, 0, none⟩ = some (.int .i64 z.d) ∧ w'.cell? ⟨J, 1, none⟩ = some (.int .i64 z.l) ∧ w'.cell? ⟨J, 2, none⟩ = some (.int .i64 z.n) ∧
  w'.cell? ⟨M, 0, none⟩ = some (.int .i64 z.d) ∧ w'.cell? ⟨M, 1, none⟩ = some (.int .i64 z.l) ∧ w'.cell? ⟨M, 2, none⟩ = some (.int .i64 z.n)
theorem Sz.keep {W w1 w2 : World} {P Q K J M R1 R2 : Nat} {vL : Value} {z : Ky} (b : Below w1.heap.size w1 w2) (c : Sz W P Q K J M R1 R2 vL z w1) : Sz W P Q K J M R1 R2 vL z w2 := by
  obtain ⟨h, a0, a1, a2, a3, a4, a5, a6, a7, a8, a9, aa, ab⟩ := c
  exact ⟨h.trans (Kp.of_below b (fun _ => False)) (fun _ _ h => h.elim), below_cell b a0, below_cell b a1, below_cell b a2, below_cell b a3, below_cell b a4, below_cell b a5, below_cell b a6, below_cell b a7, below_cell b a8, below_cell b a9, below_cell b aa, below_cell b ab⟩
theorem Sz.set3 {W w1 : World} {P Q K J M R1 R2 : Nat} {vL : Value} {z : Ky} (hq : Q ≠ P) (hk : K ≠ P) (hj : J ≠ P) (hm : M ≠ P) (x y u : Value) (c : Sz W P Q K J M R1 R2 vL z w1) : Sz W P Q K J M R1 R2 vL z (((w1.setCell ⟨P, 0, none⟩ x).setCell ⟨P, 1, none⟩ y).setCell ⟨P, 2, none⟩ u) := by
  have G7 := grownBy_trans (grownBy_trans (setCell_grown w1 P 0 x) (setCell_grown _ P 1 y)) (setCell_grown _ P 2 u)
  obtain ⟨h, a0, a1, a2, a3, a4, a5, a6, a7, a8, a9, aa, ab⟩ := c
  exact ⟨h.trans (Kp.of_grown G7) (fun g _ e => by injection e with e; exact e.symm), TQ.cell_grown G7 hq a0, TQ.cell_grown G7 hq a1, TQ.cell_grown G7 hq a2, TQ.cell_grown G7 hk a3, TQ.cell_grown G7 hk a4, TQ.cell_grown G7 hk a5, TQ.cell_grown G7 hj a6, TQ.cell_grown G7 hj a7, TQ.cell_grown G7 hj a8, TQ.cell_grown G7 hm a9, TQ.cell_grown G7 hm aa, TQ.cell_grown G7 hm ab⟩
theorem infoTr (R1 R2 : Nat) (v : Value) : (Tryd.prog.info? 33).map (·.size) = some (trL R1 R2 v).length := by show _ = some 3; kernel_rfl

set_option maxRecDepth 20000 in
set_option maxHeartbeats 4000000 in
theorem pops_gen (R1 R2 : Nat) (vL : Value) (day : Int) (w : World) (T : Nat → Prop) (hT : ∀ g, T g → g < w.heap.size) (P1 P2 : World → Prop) (F : Value → World → Prop) (z : Ky) (n : Int) (s : ByteArray) (b : Bool)
    (PI : ∀ w', Below w.heap.size w w' → w.heap.size + 2 ≤ w'.heap.size → Calls Tryd.prog 43 #[.pointer (some ⟨R1, 0, none⟩), .int .i64 day] w' fun e w2 => e = .returned (.tuple #[kyV z, .int .i64 n, .bool b]) ∧ P1 w2 ∧ Kp T w' w2)
    (PT : ∀ w', P1 w' → Calls Tryd.prog 44 #[.pointer (some ⟨R2, 0, none⟩), .int .i64 day] w' fun e w2 => e = .returned (.tuple #[kyV z, .string s, .bool b]) ∧ P2 w2 ∧ Kp T w' w2)
    (PR : ∀ w', P2 w' → Calls Tryd.prog 45 #[vL, .int .i64 day] w' fun e w2 => ∃ a m c, e = .returned (.tuple #[.slice a m c, kyV z, .int .i64 n, .bool b]) ∧ F (.slice a m c) w2 ∧ Below w'.heap.size w' w2)
    (c1 : ∀ w' w2, P1 w' → Below w'.heap.size w' w2 → P1 w2) (c2 : ∀ w' w2, P2 w' → Below w'.heap.size w' w2 → P2 w2) (c3 : ∀ vL' w' w2 M, F vL' w' → Kp M w' w2 → (∀ g, M g → w.heap.size ≤ g ∧ g < w.heap.size + 2) → F vL' w2)
    (hb : b = false → n = 0 ∧ s = ⟨#[]⟩) (hw : b = true → ∀ vL' w', F vL' w' → Calls Tryd.prog 15 #[.int .i64 n] w' fun e w2 => e = .returned (.string s) ∧ Below w'.heap.size w' w2) :
    Calls Tryd.prog 24 #[trV R1 R2 vL, .int .i64 day] w fun e w' => ∃ vL', e = .returned (.tuple #[trV R1 R2 vL', .bool true]) ∧ F vL' w' := by
  have HT : Hid (∀ g, T g → g < w.heap.size) := hT
  have HI : Hid (∀ w', Below w.heap.size w w' → w.heap.size + 2 ≤ w'.heap.size → Calls Tryd.prog 43 #[.pointer (some ⟨R1, 0, none⟩), .int .i64 day] w' fun e w2 => e = .returned (.tuple #[.agg #[.int .i64 z.d, .int .i64 z.l, .int .i64 z.n], .int .i64 n, .bool b]) ∧ P1 w2 ∧ Kp T w' w2) := PI
  have HTx : Hid (∀ w', P1 w' → Calls Tryd.prog 44 #[.pointer (some ⟨R2, 0, none⟩), .int .i64 day] w' fun e w2 => e = .returned (.tuple #[.agg #[.int .i64 z.d, .int .i64 z.l, .int .i64 z.n], .string s, .bool b]) ∧ P2 w2 ∧ Kp T w' w2) := PT
  have HR : Hid (∀ w', P2 w' → Calls Tryd.prog 45 #[vL, .int .i64 day] w' fun e w2 => ∃ a m c, e = .returned (.tuple #[.slice a m c, .agg #[.int .i64 z.d, .int .i64 z.l, .int .i64 z.n], .int .i64 n, .bool b]) ∧ F (.slice a m c) w2 ∧ Below w'.heap.size w' w2) := PR
  have HC : Hid ((∀ w' w2, P1 w' → Below w'.heap.size w' w2 → P1 w2) ∧ (∀ w' w2, P2 w' → Below w'.heap.size w' w2 → P2 w2) ∧ (∀ vL' w' w2 M, F vL' w' → Kp M w' w2 → (∀ g, M g → w.heap.size ≤ g ∧ g < w.heap.size + 2) → F vL' w2)) := ⟨c1, c2, c3⟩
  have HB : Hid (b = false → n = 0 ∧ s = ⟨#[]⟩) := hb
  have HW : Hid (b = true → ∀ vL' w', F vL' w' → Calls Tryd.prog 15 #[.int .i64 n] w' fun e w2 => e = .returned (.string s) ∧ Below w'.heap.size w' w2) := hw
  have SM : Hid (∀ w', Calls Tryd.prog 40 #[.agg #[.int .i64 z.d, .int .i64 z.l, .int .i64 z.n], .agg #[.int .i64 z.d, .int .i64 z.l, .int .i64 z.n]] w' fun e w2 => e = .returned (.bool true) ∧ Below w'.heap.size w' w2) := fun w' => by
    have := same_at z z w'
    rw [decide_eq_true rfl] at this
    exact this
  have B0 : Hid (Pz w R1 R2 vL ((w.alloc (.cells #[.pointer (some ⟨R1, 0, none⟩), .pointer (some ⟨R2, 0, none⟩), vL] 33)).alloc (.cells #[.pointer none, .pointer none, .slice none 0 0] 33)) ∧ Below w.heap.size w ((w.alloc (.cells #[.pointer (some ⟨R1, 0, none⟩), .pointer (some ⟨R2, 0, none⟩), vL] 33)).alloc (.cells #[.pointer none, .pointer none, .slice none 0 0] 33)) ∧ w.heap.size + 2 ≤ ((w.alloc (.cells #[.pointer (some ⟨R1, 0, none⟩), .pointer (some ⟨R2, 0, none⟩), vL] 33)).alloc (.cells #[.pointer none, .pointer none, .slice none 0 0] 33)).heap.size) := ⟨⟨(Blk3 w R1 R2 vL).old _, Blk.new2 33 [.pointer none, .pointer none, .slice none 0 0] w _⟩, below_trans (below_alloc _ _) (below_alloc _ _), by simp⟩
  clear hT PI PT PR c1 c2 c3 hb hw
  go_enter Tryd.func24, Tryd.ntmps24
  go_wp2_with fail
  refine (HI.out _ B0.out.2.1 B0.out.2.2).mono ?_
  rintro e w2 ⟨rfl, p2, k2⟩
  have D2 : Hid (Pz w R1 R2 vL (w2.alloc (.cells #[.int .i64 z.d, .int .i64 z.l, .int .i64 z.n] 24)) ∧ Blk w2.heap.size 24 (kyL z) (w2.alloc (.cells #[.int .i64 z.d, .int .i64 z.l, .int .i64 z.n] 24)) ∧ P1 (w2.alloc (.cells #[.int .i64 z.d, .int .i64 z.l, .int .i64 z.n] 24)) ∧ w.heap.size + 2 ≤ w2.heap.size) := ⟨(B0.out.1.kp HT.out k2).below (below_alloc _ _), Blk.new 24 (kyL z) w2, HC.out.1 _ _ p2 (below_alloc _ _), Nat.le_trans B0.out.2.2 k2.size⟩
  have x0 := D2.out.1.q.cell 0 _ rfl
  have x1 := D2.out.1.q.cell 1 _ rfl
  have x2 := D2.out.1.q.cell 2 _ rfl
  clear p2 k2 B0 HI
  go_wp2_with fail
  refine (HTx.out _ D2.out.2.2.1).mono ?_
  rintro e w3 ⟨rfl, p3, k3⟩
  have D3 : Hid (Pz w R1 R2 vL (w3.alloc (.cells #[.int .i64 z.d, .int .i64 z.l, .int .i64 z.n] 24)) ∧ Blk w2.heap.size 24 (kyL z) (w3.alloc (.cells #[.int .i64 z.d, .int .i64 z.l, .int .i64 z.n] 24)) ∧ Blk w3.heap.size 24 (kyL z) (w3.alloc (.cells #[.int .i64 z.d, .int .i64 z.l, .int .i64 z.n] 24)) ∧ P2 (w3.alloc (.cells #[.int .i64 z.d, .int .i64 z.l, .int .i64 z.n] 24)) ∧ w.heap.size + 2 ≤ w2.heap.size ∧ w.heap.size + 2 ≤ w3.heap.size) := ⟨(D2.out.1.kp HT.out k3).below (below_alloc _ _), (key_kp HT.out D2.out.2.1 (Nat.le_trans (by omega) D2.out.2.2.2) k3).below (below_alloc _ _), Blk.new 24 (kyL z) w3, HC.out.2.1 _ _ p3 (below_alloc _ _), D2.out.2.2.2, by
    have h1 := k3.size
    have h2 := D2.out.2.2.2
    simp at h1
    omega⟩
  clear x0 x1 x2 p3 k3 D2 HTx
  have x0 := D3.out.1.q.cell 0 _ rfl
  have x1 := D3.out.1.q.cell 1 _ rfl
  have x2 := D3.out.1.q.cell 2 _ rfl
  go_wp2_with fail
  refine (HR.out _ D3.out.2.2.2.1).mono ?_
  rintro e w4 ⟨va, vm, vc, rfl, f4, b4⟩
  have D4 : Hid (Pz w R1 R2 vL (w4.alloc (.cells #[.int .i64 z.d, .int .i64 z.l, .int .i64 z.n] 24)) ∧ Blk w2.heap.size 24 (kyL z) (w4.alloc (.cells #[.int .i64 z.d, .int .i64 z.l, .int .i64 z.n] 24)) ∧ Blk w3.heap.size 24 (kyL z) (w4.alloc (.cells #[.int .i64 z.d, .int .i64 z.l, .int .i64 z.n] 24)) ∧ Blk w4.heap.size 24 (kyL z) (w4.alloc (.cells #[.int .i64 z.d, .int .i64 z.l, .int .i64 z.n] 24)) ∧ F (.slice va vm vc) (w4.alloc (.cells #[.int .i64 z.d, .int .i64 z.l, .int .i64 z.n] 24)) ∧ w.heap.size + 2 ≤ w2.heap.size ∧ w.heap.size + 2 ≤ w3.heap.size ∧ w.heap.size + 2 ≤ w4.heap.size) := ⟨(D3.out.1.below b4).below (below_alloc _ _), (D3.out.2.1.below b4).below (below_alloc _ _), (D3.out.2.2.1.below b4).below (below_alloc _ _), Blk.new 24 (kyL z) w4, HC.out.2.2 _ _ _ (fun _ => False) f4 (Kp.of_below (below_alloc _ _) _) (fun _ h => h.elim), D3.out.2.2.2.2.1, D3.out.2.2.2.2.2, by
    have h1 := b4.size
    have h2 := D3.out.2.2.2.2.2
    simp at h1
    omega⟩
  clear x0 x1 x2 f4 b4 D3 HR
  go_upto_region 4 with fail
  generalize w4.alloc (.cells #[.int .i64 z.d, .int .i64 z.l, .int .i64 z.n] 24) = W at *
  generalize w4.heap.size = M at *
  generalize w3.heap.size = J at *
  generalize w2.heap.size = K at *
  have x2 := D4.out.1.q.cell 2 _ rfl
  have f2 := D4.out.1.q.fz 2
  have ltQ := D4.out.1.q.lt
  go_upto_region 5 with fail
  have NE : Hid (w.heap.size ≠ w.heap.size + 1 ∧ K ≠ w.heap.size + 1 ∧ J ≠ w.heap.size + 1 ∧ M ≠ w.heap.size + 1) := by
    have h1 := D4.out.2.2.2.2.2
    refine ⟨?_, ?_, ?_, ?_⟩ <;> omega
  have D5 : Hid (Pz w R1 R2 (.slice va vm vc) (W.setCell ⟨w.heap.size, 2, none⟩ (.slice va vm vc)) ∧ Blk K 24 (kyL z) (W.setCell ⟨w.heap.size, 2, none⟩ (.slice va vm vc)) ∧ Blk J 24 (kyL z) (W.setCell ⟨w.heap.size, 2, none⟩ (.slice va vm vc)) ∧ Blk M 24 (kyL z) (W.setCell ⟨w.heap.size, 2, none⟩ (.slice va vm vc)) ∧ F (.slice va vm vc) (W.setCell ⟨w.heap.size, 2, none⟩ (.slice va vm vc))) := by
    have g5 := setCell_grown W w.heap.size 2 (.slice va vm vc)
    have h1 := D4.out.2.2.2.2.2
    exact ⟨⟨D4.out.1.q.set (i := 2) (.slice va vm vc), D4.out.1.p.grown g5 (fun e => by injection e with e; omega)⟩, D4.out.2.1.grown g5 (fun e => by injection e with e; omega), D4.out.2.2.1.grown g5 (fun e => by injection e with e; omega), D4.out.2.2.2.1.grown g5 (fun e => by injection e with e; omega), HC.out.2.2 _ _ _ _ D4.out.2.2.2.2.1 (Kp.of_grown g5) (fun g e => by injection e with e; omega)⟩
  clear x2 f2 ltQ D4
  generalize W.setCell ⟨w.heap.size, 2, none⟩ (.slice va vm vc) = W5 at *
  have HC : Hid (∀ w', Kp (fun g => g = w.heap.size + 1) W5 w' → F (.slice va vm vc) w') := fun w' k => HC.out.2.2 _ _ _ _ D5.out.2.2.2.2 k (fun g e => by omega)
  have S0 : Hid (Sz W5 (w.heap.size + 1) w.heap.size K J M R1 R2 (.slice va vm vc) z W5.drew) := ⟨(Kp.refl _ _).drewN 1, D5.out.1.q.cell 0 _ rfl, D5.out.1.q.cell 1 _ rfl, D5.out.1.q.cell 2 _ rfl, D5.out.2.1.cell 0 _ rfl, D5.out.2.1.cell 1 _ rfl, D5.out.2.1.cell 2 _ rfl, D5.out.2.2.1.cell 0 _ rfl, D5.out.2.2.1.cell 1 _ rfl, D5.out.2.2.1.cell 2 _ rfl, D5.out.2.2.2.1.cell 0 _ rfl, D5.out.2.2.2.1.cell 1 _ rfl, D5.out.2.2.2.1.cell 2 _ rfl⟩
  have BP : Hid (Blk (w.heap.size + 1) 33 [.pointer none, .pointer none, .slice none 0 0] W5.drew) := D5.out.1.p
  clear D5
  cases b with
  | false =>
    obtain ⟨rfl, rfl⟩ := HB.out rfl
    clear HW
    go_upto_region 6 with fail
    go_region_held3 (fun w' => Sz W5 (w.heap.size + 1) w.heap.size K J M R1 R2 (.slice va vm vc) z w') (first | assumption | exact S0.out | exact Sz.keep hU (by assumption) | exact Sz.set3 NE.out.1 NE.out.2.1 NE.out.2.2.1 NE.out.2.2.2 _ _ _ (by assumption)) (first
      | (go_at_call 40; refine (SM.out _).mono ?_; rintro e w6 ⟨rfl, hU⟩; have BP : Hid (Blk (w.heap.size + 1) 33 [.pointer none, .pointer none, .slice none 0 0] w6) := BP.out.below hU; have p0 := BP.out.cell 0 _ rfl; have p1 := BP.out.cell 1 _ rfl; have p2 := BP.out.cell 2 _ rfl; have f0 := BP.out.fz 0; have f1 := BP.out.fz 1; have f2 := BP.out.fz 2; have ltP := BP.out.lt))
    all_goals
      have k9 := And.left (show Sz W5 (w.heap.size + 1) w.heap.size K J M R1 R2 (.slice va vm vc) z (((w6.setCell ⟨w.heap.size + 1, 0, none⟩ (.pointer (some ⟨R1, 0, none⟩))).setCell ⟨w.heap.size + 1, 1, none⟩ (.pointer (some ⟨R2, 0, none⟩))).setCell ⟨w.heap.size + 1, 2, none⟩ (.slice va vm vc)) by assumption)
      have N9 : Hid (Blk (w.heap.size + 1) 33 (trL R1 R2 (.slice va vm vc)) (((w6.setCell ⟨w.heap.size + 1, 0, none⟩ (.pointer (some ⟨R1, 0, none⟩))).setCell ⟨w.heap.size + 1, 1, none⟩ (.pointer (some ⟨R2, 0, none⟩))).setCell ⟨w.heap.size + 1, 2, none⟩ (.slice va vm vc)) ∧ F (.slice va vm vc) (((w6.setCell ⟨w.heap.size + 1, 0, none⟩ (.pointer (some ⟨R1, 0, none⟩))).setCell ⟨w.heap.size + 1, 1, none⟩ (.pointer (some ⟨R2, 0, none⟩))).setCell ⟨w.heap.size + 1, 2, none⟩ (.slice va vm vc))) := ⟨((BP.out.set (i := 0) (.pointer (some ⟨R1, 0, none⟩))).set (i := 1) (.pointer (some ⟨R2, 0, none⟩))).set (i := 2) (.slice va vm vc), HC.out _ k9⟩
      clear k9 hU BP p0 p1 p2 f0 f1 f2 ltP
      go_wp2_with fail
      exact ret_blk_tmp rfl rfl (w.heap.size + 1) _ (trL R1 R2 (.slice va vm vc)) _ rfl N9.out.1 Tryd.underlying33 rfl (infoTr _ _ _) ⟨_, rfl, N9.out.2⟩
  | true =>
    have HW : Hid (∀ w', F (.slice va vm vc) w' → Calls Tryd.prog 15 #[.int .i64 n] w' fun e w2 => e = .returned (.string s) ∧ Below w'.heap.size w' w2) := fun w' h => HW.out rfl _ w' h
    have WT : Hid (∀ w', Sz W5 (w.heap.size + 1) w.heap.size K J M R1 R2 (.slice va vm vc) z w' → Calls Tryd.prog 15 #[.int .i64 n] w' fun e w2 => e = .returned (.string s) ∧ Below w'.heap.size w' w2) := fun w' h => HW.out _ (HC.out _ (And.left h))
    clear HW
    go_upto_region 7 with fail
    go_region_held3 (fun w' => Sz W5 (w.heap.size + 1) w.heap.size K J M R1 R2 (.slice va vm vc) z w') (first | assumption | exact S0.out | exact Sz.keep hU (by assumption) | exact Sz.set3 NE.out.1 NE.out.2.1 NE.out.2.2.1 NE.out.2.2.2 _ _ _ (by assumption)) (first
      | (go_at_call 40; refine (SM.out _).mono ?_; rintro e w6 ⟨rfl, hU⟩; have BP : Hid (Blk (w.heap.size + 1) 33 [.pointer none, .pointer none, .slice none 0 0] w6) := BP.out.below hU; have p0 := BP.out.cell 0 _ rfl; have p1 := BP.out.cell 1 _ rfl; have p2 := BP.out.cell 2 _ rfl; have f0 := BP.out.fz 0; have f1 := BP.out.fz 1; have f2 := BP.out.fz 2; have ltP := BP.out.lt)
      | (go_at_call 15; refine (WT.out _ (by assumption)).mono ?_; rintro e w6 ⟨rfl, hU⟩; have BP : Hid (Blk (w.heap.size + 1) 33 [.pointer none, .pointer none, .slice none 0 0] w6) := BP.out.below hU; have p0 := BP.out.cell 0 _ rfl; have p1 := BP.out.cell 1 _ rfl; have p2 := BP.out.cell 2 _ rfl; have f0 := BP.out.fz 0; have f1 := BP.out.fz 1; have f2 := BP.out.fz 2; have ltP := BP.out.lt))
    all_goals
      have k9 := And.left (show Sz W5 (w.heap.size + 1) w.heap.size K J M R1 R2 (.slice va vm vc) z (((w6.setCell ⟨w.heap.size + 1, 0, none⟩ (.pointer (some ⟨R1, 0, none⟩))).setCell ⟨w.heap.size + 1, 1, none⟩ (.pointer (some ⟨R2, 0, none⟩))).setCell ⟨w.heap.size + 1, 2, none⟩ (.slice va vm vc)) by assumption)
      have N9 : Hid (Blk (w.heap.size + 1) 33 (trL R1 R2 (.slice va vm vc)) (((w6.setCell ⟨w.heap.size + 1, 0, none⟩ (.pointer (some ⟨R1, 0, none⟩))).setCell ⟨w.heap.size + 1, 1, none⟩ (.pointer (some ⟨R2, 0, none⟩))).setCell ⟨w.heap.size + 1, 2, none⟩ (.slice va vm vc)) ∧ F (.slice va vm vc) (((w6.setCell ⟨w.heap.size + 1, 0, none⟩ (.pointer (some ⟨R1, 0, none⟩))).setCell ⟨w.heap.size + 1, 1, none⟩ (.pointer (some ⟨R2, 0, none⟩))).setCell ⟨w.heap.size + 1, 2, none⟩ (.slice va vm vc))) := ⟨((BP.out.set (i := 0) (.pointer (some ⟨R1, 0, none⟩))).set (i := 1) (.pointer (some ⟨R2, 0, none⟩))).set (i := 2) (.slice va vm vc), HC.out _ k9⟩
      clear k9 hU BP p0 p1 p2 f0 f1 f2 ltP
      go_wp2_with fail
      exact ret_blk_tmp rfl rfl (w.heap.size + 1) _ (trL R1 R2 (.slice va vm vc)) _ rfl N9.out.1 Tryd.underlying33 rfl (infoTr _ _ _) ⟨_, rfl, N9.out.2⟩
end Go.Proofs.YtfdehlfhnlgcjaaDoor
