/-
  Ours: the walk of FrameCutAgain.
-/
import Derived.Test.YteflbdlfjebccaaDoorFrmLaw2
import Derived.Test.YteflbdlfjebccaaDoorFrmEnc
namespace Go.Proofs.YteflbdlfjebccaaDoor
open Go.RowKit

theorem scan_enc {p : List Nat} (hp : p.length ≤ 4194304) (q : List Nat) : CrcM.scan (CrcM.enc p ++ q) = (p :: (CrcM.scan q).1, p.length + 8 + (CrcM.scan q).2.1, (CrcM.scan q).2.2) := by
  obtain ⟨w1, w2⟩ := CrcM.whole_enc hp q
  rw [CrcM.scan_some (by rw [w1]; simp), w1, w2]
  simp only
  rw [CrcM.drop4 _ _ _ (CrcM.enc_len p)]
theorem scan_small : ∀ (n : Nat) (l : List Nat), l.length ≤ n → ∀ x ∈ (CrcM.scan l).1, x.length ≤ l.length
  | n, l, hn => by
    by_cases h : (CrcM.whole l).1 = 0
    · rw [CrcM.scan_none h]; intro x hx; cases hx
    · obtain ⟨h1, _, h3, h4, _⟩ := CrcM.whole_pos h
      have pl := CrcM.pay_len h
      match n with
      | 0 => omega
      | n + 1 =>
        have ih := scan_small n (l.drop (CrcM.whole l).1) (by simp; omega)
        rw [CrcM.scan_some h]
        intro x hx
        rcases List.mem_cons.1 hx with e | e
        · subst e; omega
        · have := ih x e
          rw [List.length_drop] at this
          omega

end Go.Proofs.YteflbdlfjebccaaDoor
