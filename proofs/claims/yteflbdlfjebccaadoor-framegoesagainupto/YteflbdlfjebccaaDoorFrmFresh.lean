/-
  Ours: the walk of FrameFresh.
-/
import Derived.Test.YteflbdlfjebccaaDoorFrmOut
import Derived.Test.YteflbdlfjebccaaDoorFrmTorn
namespace Go.Proofs.YteflbdlfjebccaaDoor
open Go.RowKit

theorem decL_join {cs : List (List Nat)} (h : ∀ p ∈ cs, p.length ≤ 4194304) {i : Nat} (hi : i < cs.length) :
    decL (CrcM.join cs) ((CrcM.sizeL (cs.take i) : Nat) : Int) = (cs.getD i [], ((CrcM.sizeL (cs.take i) : Nat) : Int) + (((cs.getD i []).length + 8 : Nat) : Int), 0) := by
  have e1 : cs.getD i [] = cs[i] := by rw [List.getD_eq_getElem?_getD, List.getElem?_eq_getElem hi]; rfl
  have e2 : CrcM.join cs = CrcM.join (cs.take i) ++ (CrcM.enc (cs.getD i []) ++ CrcM.join (cs.drop (i + 1))) := by
    have : cs = cs.take i ++ (cs.getD i [] :: cs.drop (i + 1)) := by rw [e1, ← List.drop_eq_getElem_cons hi, List.take_append_drop]
    unfold CrcM.join
    conv => lhs; rw [this]
    rw [List.flatMap_append, List.flatMap_cons]
  have hm : cs.getD i [] ∈ cs := by rw [e1]; exact List.getElem_mem hi
  obtain ⟨w1, w2⟩ := CrcM.whole_enc (h _ hm) (CrcM.join (cs.drop (i + 1)))
  have hd : (CrcM.join cs).drop (CrcM.sizeL (cs.take i)) = CrcM.enc (cs.getD i []) ++ CrcM.join (cs.drop (i + 1)) := by
    rw [e2]; exact List.drop_left
  have hle : CrcM.sizeL (cs.take i) ≤ (CrcM.join cs).length := sizeL_take_le cs i
  unfold decL
  rw [if_neg (by omega), Int.toNat_natCast, hd, w1, w2, if_neg (by simp)]

theorem OU.mono {base : Nat} {P Q : Nat → Prop} {W : World} {v : Value} {vs : List Value} {ns : List Nat} (h : OU base P W v vs ns) (k : ∀ g, P g → Q g) : OU base Q W v vs ns := ⟨h.ti, fun j hj g hg => k g (h.far j hj g hg)⟩
theorem OU.bound {base : Nat} {Q : Nat → Prop} {W : World} {v : Value} {vs : List Value} {ns : List Nat} (h : OU base Q W v vs ns) {B : Nat} (hB : W.heap.size ≤ B) : OU base (fun g => Q g ∧ g < B) W v vs ns := ⟨h.ti, fun j hj g hg => ⟨h.far j hj g hg, by have := h.lt j hj g hg; omega⟩⟩
theorem OU.next {base B B' : Nat} {Q : Nat → Prop} {W W' : World} {v v' x : Value} {vs : List Value} {ns c : List Nat} (h : OU base (fun g => Q g ∧ g < B) W v vs ns) (hr : RowB 5 base W x c) (hx : ∀ g, x.ownBlock = some g → Q g ∧ B ≤ g ∧ g < B') (hB : B ≤ B')
    (hown : RowV 22 base W' v' (vs ++ [x])) (hg : W.grownBy W' v.ownBlock) : OU base (fun g => Q g ∧ g < B') W' v' (vs ++ [x]) (ns ++ [c.length]) := by
  have h' : OU base (fun g => Q g ∧ g < B') W v vs ns := h.mono fun g ⟨h1, h2⟩ => ⟨h1, by omega⟩
  refine h'.push hr (fun g hg => ⟨(hx g hg).1, (hx g hg).2.2⟩) (fun j hj g hj' e => ?_) hown hg
  have := (h.far j hj g hj').2
  have := (hx g e).2.1
  omega
theorem below_step {B : Nat} {w W W' : World} {row : Option Nat} (h : Below B w W) (g : W.grownBy W' row) (hB : B ≤ W.heap.size) (hr : ∀ q, row = some q → B ≤ q) : Below B w W' :=
  ⟨g.os.trans h.os, g.tape.trans h.tape, g.output.trans h.output, Nat.le_trans h.size g.size, fun i hi => (g.block i (by omega) (fun e => by have := hr i e.symm; omega)).trans (h.block i hi)⟩
theorem below_kp {B : Nat} {M : Nat → Prop} {w W W' : World} (h : Below B w W) (k : Kp M W W') (hB : B ≤ W.heap.size) (hm : ∀ q, M q → B ≤ q) : Below B w W' :=
  ⟨k.os.trans h.os, k.tape.trans h.tape, k.output.trans h.output, Nat.le_trans h.size k.size, fun i hi => (k.block i (by omega) (fun e => by have := hm i e; omega)).trans (h.block i hi)⟩
end Go.Proofs.YteflbdlfjebccaaDoor
