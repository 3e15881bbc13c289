/-
  Ours: same: two disks answer a step alike.
-/
import Derived.Test.YtiefnomldfhhnaaDskPure
namespace Go.Proofs.Ytiefnomldfhhnaa
open Go.RowKit

/-- Two disks that differ in the number of writes alone. -/
def TwoD (w0 : World) (R1 R2 : Nat) (m : Int) (t : Dk) (w : World) : Prop := ∃ S1 S2, DkIn w0 R1 S1 (t.sh m) w ∧ DkIn w0 R2 S2 t w ∧ ∀ g, S1 g → ¬ S2 g
theorem TwoD.below {w0 : World} {R1 R2 : Nat} {m : Int} {t : Dk} {w w' : World} (h : TwoD w0 R1 R2 m t w) (hb : Below w.heap.size w w') : TwoD w0 R1 R2 m t w' := by
  obtain ⟨S1, S2, h1, h2, h3⟩ := h
  exact ⟨S1, S2, h1.below hb, h2.below hb, h3⟩
theorem TwoD.bel {w0 : World} {R1 R2 : Nat} {m : Int} {t : Dk} {w : World} (h : TwoD w0 R1 R2 m t w) : Below w0.heap.size w0 w := by
  obtain ⟨S1, S2, h1, _, _⟩ := h; exact h1.bel

abbrev OPC (k : Int) (ot : Bool) (f a b : Int) (x : Option Addr) (n c : Nat) : Array Value := #[.int .i64 k, .bool ot, .int .i64 f, .int .i64 a, .int .i64 b, .slice x n c]

end Go.Proofs.Ytiefnomldfhhnaa
