/-
  Ours: OutboxAlone (gen_ob6.py: THE SEAT's OWN NUMBERS).
-/
import Derived.Test.YtjbmiihbgelpeaaObAlM
import Derived.Test.YtjbmiihbgelpeaaObOpen
namespace Go.Proofs.Ytjbmiihbgelpeaa
open Go.RowKit ObM LedM PolM
set_option linter.unusedSimpArgs false

/-- The state of a round: the boxes, the call o in its block G, what each box holds. -/
structure AS3 (Z : Nat) (w : World) (id : Int) (o : Sm) (bx : Option Addr) (bc G R1 bm1 : Nat) (B1 : Nat → Prop) (L : List En) (R2 bm2 : Nat) (B2 : Nat → Prop) (M : List En) (l : List Int) (k1 k2 : Nat) (nw : Int) (wr : World) : Prop where
  two : Two R1 bm1 B1 L R2 bm2 B2 M l Z wr
  blk : Blk G 50 (sllL o bx bc) wr
  rd : RdB wr (.slice bx o.bs.length bc) o.bs
  bl : o.bs.length ≤ 140737488351232
  lim : Lim k1 L ∧ Lim k2 M
  b : Below Z w wr
  z : w.heap.size = Z
  rb : RdB w (.slice bx o.bs.length bc) o.bs
/-- What an Add has made of the box. -/
def AddD (L : List En) (id now : Int) (bs : List Nat) (L' : List En) : Prop := (addE L id ≠ 0 ∧ L' = L) ∨ (addE L id = 0 ∧ lk L id = none ∧ ∃ x, L' = ins L x ∧ x.id = id ∧ core x = (id, 0, now, bs))
theorem AddD.al {id now : Int} {bs : List Nat} {L M L' M' : List En} (h : Al id L M) (p : AddD L id now bs L') (q : AddD M id now bs M') : Al id L' M' := by
  rcases p with ⟨p1, rfl⟩ | ⟨p1, p2, x, rfl, p3, p4⟩
  · rcases q with ⟨_, rfl⟩ | ⟨q1, _⟩
    · exact h
    · rw [h.addE] at q1; exact absurd q1 p1
  · rcases q with ⟨q1, _⟩ | ⟨_, _, y, rfl, _, q4⟩
    · rw [h.addE] at q1; exact absurd p1 q1
    · exact h.adds p3 (q4.trans p4.symm) p2
section
variable {Z : Nat} {w wr w4 : World} {id i nw : Int} {o : Sm} {bx : Option Addr} {bc G R1 bm1 : Nat} {B1 : Nat → Prop} {L : List En} {R2 bm2 : Nat} {B2 : Nat → Prop} {M : List En} {l : List Int} {k1 k2 : Nat}
theorem AS3.later (h : AS3 Z w id o bx bc G R1 bm1 B1 L R2 bm2 B2 M l k1 k2 nw wr) (b : Below wr.heap.size wr w4) : AS3 Z w id o bx bc G R1 bm1 B1 L R2 bm2 B2 M l k1 k2 nw w4 :=
  ⟨h.two.below b, h.blk.below b, Rd.later h.rd b, h.bl, h.lim, ⟨b.os.trans h.b.os, b.tape.trans h.b.tape, b.output.trans h.b.output, Nat.le_trans h.b.size b.size, fun g hg => (b.block g (Nat.lt_of_lt_of_le hg (by have := h.b.size; have := h.z; omega))).trans (h.b.block g hg)⟩, h.z, h.rb⟩
theorem AS3.sub (h : AS3 Z w id o bx bc G R1 bm1 B1 L R2 bm2 B2 M l k1 k2 nw wr) {bm : Nat} (hb : Z ≤ bm) (kp : Kp (fun g => g = bm) wr w4) (hG : G ≠ bm) : Blk G 50 (sllL o bx bc) w4 ∧ RdB w4 (.slice bx o.bs.length bc) o.bs ∧ Below Z w w4 := by
  have bb := kp_below h.b h.z hb kp
  have b' : Below w.heap.size w w4 := by rw [h.z]; exact bb
  exact ⟨h.blk.kp kp hG, Rd.later h.rb b', bb⟩
theorem AS3.ng (h : AS3 Z w id o bx bc G R1 bm1 B1 L R2 bm2 B2 M l k1 k2 nw wr) : G ≠ bm1 ∧ G ≠ bm2 := by
  obtain ⟨es, c, hb, _⟩ := h.two.a.mp
  obtain ⟨es', c', hb', _⟩ := h.two.b.mp
  exact ⟨ne_map h.blk hb, ne_map h.blk hb'⟩
theorem AS3.postL (h : AS3 Z w id o bx bc G R1 bm1 B1 L R2 bm2 B2 M l k1 k2 nw wr) {L' : List En} {B1' : Nat → Prop} (p : OPost R1 bm1 B1 l wr L' B1' w4) (lm : Lim (k1 + 1) L') : AS3 Z w id o bx bc G R1 bm1 B1' L' R2 bm2 B2 M l (k1 + 1) k2 nw w4 := by
  obtain ⟨s1, s2, s3⟩ := h.sub h.two.ge.1 p.k h.ng.1
  exact ⟨h.two.left p, s1, s2, h.bl, ⟨lm, h.lim.2⟩, s3, h.z, h.rb⟩
theorem AS3.postR (h : AS3 Z w id o bx bc G R1 bm1 B1 L R2 bm2 B2 M l k1 k2 nw wr) {M' : List En} {B2' : Nat → Prop} (p : OPost R2 bm2 B2 l wr M' B2' w4) (lm : Lim (k2 + 1) M') : AS3 Z w id o bx bc G R1 bm1 B1 L R2 bm2 B2' M' l k1 (k2 + 1) nw w4 := by
  obtain ⟨s1, s2, s3⟩ := h.sub h.two.ge.2 p.k h.ng.2
  exact ⟨h.two.right p, s1, s2, h.bl, ⟨h.lim.1, lm⟩, s3, h.z, h.rb⟩
theorem AS3.addL (h : AS3 Z w id o bx bc G R1 bm1 B1 L R2 bm2 B2 M l k1 k2 nw wr) (q : (addE L i ≠ 0 ∧ OPost R1 bm1 B1 l wr L B1 w4) ∨ (addE L i = 0 ∧ 1 ≤ i ∧ lk L i = none ∧ ∃ B' x, OPost R1 bm1 B1 l wr (ins L x) B' w4 ∧ x.id = i ∧ x.att = 0 ∧ x.nx = nw ∧ x.bs = o.bs)) (_ : i64 i) :
    ∃ B1' L', AS3 Z w id o bx bc G R1 bm1 B1' L' R2 bm2 B2 M l (k1 + 1) k2 nw w4 ∧ AddD L i nw o.bs L' := by
  rcases q with ⟨q1, p⟩ | ⟨q1, _, q2, B', x, p, x1, x2, x3, x4⟩
  · exact ⟨B1, L, h.postL p (h.lim.1.mono (by omega)), .inl ⟨q1, rfl⟩⟩
  · exact ⟨B', ins L x, h.postL p (h.lim.1.ins x2 (by rw [x1]; exact q2)), .inr ⟨q1, q2, x, rfl, x1, by unfold core; rw [x1, x2, x3, x4]⟩⟩
theorem AS3.addR (h : AS3 Z w id o bx bc G R1 bm1 B1 L R2 bm2 B2 M l k1 k2 nw wr) (q : (addE M i ≠ 0 ∧ OPost R2 bm2 B2 l wr M B2 w4) ∨ (addE M i = 0 ∧ 1 ≤ i ∧ lk M i = none ∧ ∃ B' x, OPost R2 bm2 B2 l wr (ins M x) B' w4 ∧ x.id = i ∧ x.att = 0 ∧ x.nx = nw ∧ x.bs = o.bs)) (_ : i64 i) :
    ∃ B2' M', AS3 Z w id o bx bc G R1 bm1 B1 L R2 bm2 B2' M' l k1 (k2 + 1) nw w4 ∧ AddD M i nw o.bs M' := by
  rcases q with ⟨q1, p⟩ | ⟨q1, _, q2, B', x, p, x1, x2, x3, x4⟩
  · exact ⟨B2, M, h.postR p (h.lim.2.mono (by omega)), .inl ⟨q1, rfl⟩⟩
  · exact ⟨B', ins M x, h.postR p (h.lim.2.ins x2 (by rw [x1]; exact q2)), .inr ⟨q1, q2, x, rfl, x1, by unfold core; rw [x1, x2, x3, x4]⟩⟩
end
end Go.Proofs.Ytjbmiihbgelpeaa
