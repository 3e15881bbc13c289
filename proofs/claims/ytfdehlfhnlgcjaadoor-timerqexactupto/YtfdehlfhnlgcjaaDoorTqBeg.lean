/-
  Ours: begin: an empty trio.
-/
import Derived.Test.YtfdehlfhnlgcjaaDoorTqTp
import Derived.Test.YtfdehlfhnlgcjaaDoorTqStep
namespace Go.Proofs.YtfdehlfhnlgcjaaDoor
open Go.RowKit TqM

/-- A trio that has just been made. -/
def BegQ (B : Nat) (w : World) (e : Ending) (w' : World) : Prop := ∃ R1 R2, e = .returned (.tuple #[trV R1 R2 (.slice none 0 0), .bool true]) ∧ ∃ T, Tri B R1 R2 (.slice none 0 0) T 0 [] w' ∧ (∀ g, T g → w.heap.size ≤ g) ∧ Below w.heap.size w w'
theorem beg_end {B R1 R2 : Nat} {S1 S2 : Nat → Prop} {w w1 w2 w3 : World} (hB : B ≤ w.heap.size) (b0 : w.heap.size + 1 ≤ w1.heap.size) (q1 : TQ.QAt R1 S1 [] w1) (n1 : ∀ g, S1 g → w.heap.size + 1 ≤ g) (q2 : TS.QAt R2 S2 [] w2) (n2 : ∀ g, S2 g → w1.heap.size ≤ g) (b2 : Below w1.heap.size w1 w2) {M : Nat → Prop} (k : Kp M w2 w3) (hM : ∀ g, M g → g = w.heap.size ∨ w2.heap.size ≤ g) (b : Below w.heap.size w w3) : BegQ B w (.returned (.tuple #[trV R1 R2 (.slice none 0 0), .bool true])) w3 := by
  have z1 := q1.s
  have z2 := q2.s
  have s2 := b2.size
  have s3 := k.size
  refine ⟨R1, R2, rfl, fun g => S1 g ∨ S2 g, ⟨⟨S1, S2, [], [], (q1.below b2).kp k (fun g hg hm => ?_), q2.kp k (fun g hg hm => ?_), fun g h => .inl h, fun g h => .inr h, fun g h1 h2 => ?_, fun g hg => (by cases hg), .refl _, .refl _, RowI.nil _ _⟩, fun g hg => ?_, List.Pairwise.nil, fun x hx => (by cases hx), Nat.le_refl _⟩, fun g hg => ?_, b⟩
  · have := n1 g hg; have := z1 g hg
    rcases hM g hm with h | h <;> omega
  · have := n2 g hg; have := z2 g hg
    rcases hM g hm with h | h <;> omega
  · have := z1 g h1; have := n2 g h2; omega
  · rcases hg with h | h
    · have := n1 g h; have := z1 g h; exact ⟨by omega, by omega⟩
    · have := n2 g h; have := z2 g h; exact ⟨by omega, by omega⟩
  · rcases hg with h | h
    · have := n1 g h; omega
    · have := n2 g h; omega

set_option maxRecDepth 20000 in
set_option maxHeartbeats 4000000 in
theorem begin_at (B : Nat) (w : World) (hB : B ≤ w.heap.size) : Calls Tryd.prog 8 #[] w (BegQ B w) := by
  have HB : Hid (B ≤ w.heap.size) := hB
  clear hB
  have NI : Hid (∀ w', Calls Tryd.prog 10 #[] w' (TQ.NewQ w')) := fun w' => TQ.new_at w'
  have NS : Hid (∀ w', Calls Tryd.prog 11 #[] w' (TS.NewQ w')) := fun w' => TS.new_at w'
  have Z0 : Hid (Blk w.heap.size 33 [.pointer none, .pointer none, .slice none 0 0] (w.alloc (.cells #[.pointer none, .pointer none, .slice none 0 0] 33)) ∧ Below w.heap.size w (w.alloc (.cells #[.pointer none, .pointer none, .slice none 0 0] 33)) ∧ (w.alloc (.cells #[.pointer none, .pointer none, .slice none 0 0] 33)).heap.size = w.heap.size + 1) := ⟨Blk.new 33 _ w, below_alloc _ _, by simp⟩
  go_enter Tryd.func8, Tryd.ntmps8
  go_wp2_with fail
  generalize (w.alloc (.cells #[.pointer none, .pointer none, .slice none 0 0] 33)) = w0 at *
  refine (NI.out _).mono ?_
  rintro e w1 ⟨R1, S1, rfl, q1, n1, b1⟩
  have S1' : Hid (TQ.QAt R1 S1 [] w1 ∧ (∀ g, S1 g → w.heap.size + 1 ≤ g) ∧ Blk w.heap.size 33 [.pointer none, .pointer none, .slice none 0 0] w1 ∧ Below w.heap.size w w1 ∧ w.heap.size + 1 ≤ w1.heap.size) := ⟨q1, fun g hg => by have := n1 g hg; rw [Z0.out.2.2] at this; exact this, Z0.out.1.below b1, below_trans Z0.out.2.1 b1, by have := b1.size; rw [Z0.out.2.2] at this; exact this⟩
  clear q1 n1 b1 Z0 NI w0
  go_wp2_with fail
  refine (NS.out _).mono ?_
  rintro e w2 ⟨R2, S2, rfl, q2, n2, b2⟩
  have S2' : Hid (TS.QAt R2 S2 [] w2 ∧ (∀ g, S2 g → w1.heap.size ≤ g) ∧ Blk w.heap.size 33 [.pointer none, .pointer none, .slice none 0 0] w2 ∧ Below w.heap.size w w2 ∧ Below w1.heap.size w1 w2) := ⟨q2, n2, S1'.out.2.2.1.below b2, below_trans S1'.out.2.2.2.1 b2, b2⟩
  clear q2 n2 b2 NS
  have S3' : Hid (Blk w2.heap.size 33 (trL R1 R2 (.slice none 0 0)) (w2.alloc (.cells #[.pointer (some ⟨R1, 0, none⟩), .pointer (some ⟨R2, 0, none⟩), .slice none 0 0] 33)) ∧ Blk w.heap.size 33 [.pointer none, .pointer none, .slice none 0 0] (w2.alloc (.cells #[.pointer (some ⟨R1, 0, none⟩), .pointer (some ⟨R2, 0, none⟩), .slice none 0 0] 33)) ∧ Below w2.heap.size w2 (w2.alloc (.cells #[.pointer (some ⟨R1, 0, none⟩), .pointer (some ⟨R2, 0, none⟩), .slice none 0 0] 33))) := ⟨Blk.new 33 _ w2, S2'.out.2.2.1.below (below_alloc _ _), below_alloc _ _⟩
  go_upto_region 2 with fail
  generalize (w2.alloc (.cells #[.pointer (some ⟨R1, 0, none⟩), .pointer (some ⟨R2, 0, none⟩), .slice none 0 0] 33)) = w3 at *
  have hne : w.heap.size ≠ w2.heap.size := by have := S2'.out.2.2.1.lt; omega
  have hne' : w2.heap.size ≠ w.heap.size := fun e => hne e.symm
  have x0 := S3'.out.1.cell 0 _ rfl
  have x1 := S3'.out.1.cell 1 _ rfl
  have x2 := S3'.out.1.cell 2 _ rfl
  have p0 := S3'.out.2.1.cell 0 _ rfl; have f0 := S3'.out.2.1.fz 0; have p1 := S3'.out.2.1.cell 1 _ rfl; have f1 := S3'.out.2.1.fz 1; have p2 := S3'.out.2.1.cell 2 _ rfl; have f2 := S3'.out.2.1.fz 2; have ltP := S3'.out.2.1.lt
  have N9 : Hid (Blk w.heap.size 33 (trL R1 R2 (.slice none 0 0)) (((w3.setCell ⟨w.heap.size, 0, none⟩ (.pointer (some ⟨R1, 0, none⟩))).setCell ⟨w.heap.size, 1, none⟩ (.pointer (some ⟨R2, 0, none⟩))).setCell ⟨w.heap.size, 2, none⟩ (.slice none 0 0)).drew ∧ BegQ B w (.returned (.tuple #[trV R1 R2 (.slice none 0 0), .bool true])) (((w3.setCell ⟨w.heap.size, 0, none⟩ (.pointer (some ⟨R1, 0, none⟩))).setCell ⟨w.heap.size, 1, none⟩ (.pointer (some ⟨R2, 0, none⟩))).setCell ⟨w.heap.size, 2, none⟩ (.slice none 0 0)).drew) := by
    have st := And.intro (((S3'.out.2.1.set (i := 0) (.pointer (some ⟨R1, 0, none⟩))).set (i := 1) (.pointer (some ⟨R2, 0, none⟩))).set (i := 2) (.slice none 0 0)) (grownBy_trans (grownBy_trans (setCell_grown w3 w.heap.size 0 (.pointer (some ⟨R1, 0, none⟩))) (setCell_grown _ w.heap.size 1 (.pointer (some ⟨R2, 0, none⟩)))) (setCell_grown _ w.heap.size 2 (.slice none 0 0)))
    have kk : Kp (fun g => some w.heap.size = some g) w3 (((w3.setCell ⟨w.heap.size, 0, none⟩ (.pointer (some ⟨R1, 0, none⟩))).setCell ⟨w.heap.size, 1, none⟩ (.pointer (some ⟨R2, 0, none⟩))).setCell ⟨w.heap.size, 2, none⟩ (.slice none 0 0)) := Kp.of_grown st.2
    have bb := (below_trans S2'.out.2.2.2.1 S3'.out.2.2).grown st.2 (below_trans S2'.out.2.2.2.1 S3'.out.2.2).size (fun k e => by cases e; exact Nat.le_refl _)
    generalize (((w3.setCell ⟨w.heap.size, 0, none⟩ (.pointer (some ⟨R1, 0, none⟩))).setCell ⟨w.heap.size, 1, none⟩ (.pointer (some ⟨R2, 0, none⟩))).setCell ⟨w.heap.size, 2, none⟩ (.slice none 0 0)) = w4 at *
    have dr : Below w4.heap.size w4 w4.drew := Below.drew (Below.refl _ _)
    exact ⟨Blk.below st.1 dr, beg_end (M := fun g => some w.heap.size = some g) HB.out S1'.out.2.2.2.2 S1'.out.1 S1'.out.2.1 S2'.out.1 S2'.out.2.1 S2'.out.2.2.2.2 (((Kp.of_below S3'.out.2.2 _).trans kk (fun _ _ h => h)).trans (Kp.of_below dr (fun _ => False)) (fun _ _ h => h.elim)) (fun g hg => by cases hg; exact .inl rfl) (below_trans bb dr)⟩
  clear S1' S2' S3'
  go_region
  go_wp2_with fail
  exact ret_blk_tmp rfl rfl w.heap.size _ (trL R1 R2 (.slice none 0 0)) _ rfl N9.out.1 Tryd.underlying33 rfl (infoTr _ _ _) (by exact N9.out.2)
end Go.Proofs.YtfdehlfhnlgcjaaDoor
