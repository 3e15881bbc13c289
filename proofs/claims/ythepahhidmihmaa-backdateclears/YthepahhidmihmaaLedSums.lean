/-
  Ours: the sums added up, told as a book; the range; the sides.
-/
import Derived.Test.YthepahhidmihmaaLedWide
import Derived.Test.YthepahhidmihmaaLedBal
import Derived.Test.YthepahhidmihmaaLedNet
import Derived.Deep.Cut
import Derived.Deep.CutRange
namespace Go.Proofs.Ythepahhidmihmaa
open Go.RowKit LedM

theorem run_index_agg {P : Program} (t e : TypeId) (n sz : Nat) (d : TypeDesc) (cs : Array Value) (k : Nat) (hu : P.underlying t = some (.array n e)) (hk : k < n) (he : P.underlying e = some d) (hd : d.isRow = true)
    (hi : (P.info? e).map (·.size) = some sz) (w : World) : (Instr.index t (.agg cs) (.int .i64 (k : Int))).run P w = .ok (.agg (cs.extract (k * sz) (k * sz + sz))) w := by
  have hagg : (isAgg e).run P w = .ok true w := by
    unfold isAgg
    rw [Sem.run_bind, run_underlying he w]
    cases d <;> simp_all [TypeDesc.isRow]
  cases hq : P.info? e with
  | none => simp [hq] at hi
  | some i =>
    have hs : i.size = sz := by simpa [hq] using hi
    simp [Instr.index, asIntOf, run_underlying hu, hk, part, sizeOf, typeInfo, hq, hs, hagg]
theorem smL_at' (ss : List Int) (k : Nat) (h : k < ss.length) : ((smL ss).drop (k * 2)).take 2 = wdL (ss.getD k 0) := by rw [Nat.mul_comm]; exact smL_at ss k h
theorem smL_set' (ss : List Int) (k : Nat) (s : Int) (h : k < ss.length) : (smL ss).take (k * 2) ++ wdL s ++ (smL ss).drop (k * 2 + 2) = smL (ss.set k s) := by rw [Nat.mul_comm]; exact smL_set ss k s h
theorem oneWl (s : Int) : ∀ v ∈ wdL s, v.oneCell' = true := oneW _ _

namespace LedM
theorem ext12 {a b : List Int} (ha : a.length = 12) (hb : b.length = 12) (h : ∀ j, j < 12 → a.getD j 0 = b.getD j 0) : a = b := by
  apply List.ext_getElem (by omega)
  intro i h1 h2
  have := h i (by omega)
  simpa [List.getD_eq_getElem?_getD, List.getElem?_eq_getElem h1, List.getElem?_eq_getElem h2] using this
theorem getD_set {l : List Int} {k j : Nat} {x : Int} (hk : k < l.length) : (l.set k x).getD j 0 = if j = k then x else l.getD j 0 := by
  rw [List.getD_eq_getElem?_getD, List.getElem?_set]
  by_cases h : k = j
  · subst h; simp [hk]
  · rw [if_neg h, if_neg (fun e => h e.symm), List.getD_eq_getElem?_getD]
def addL (ss l : List Int) : List Int := (List.range 12).map fun j => ss.getD j 0 + l.getD j 0
theorem addL_len (ss l : List Int) : (addL ss l).length = 12 := by simp [addL]
theorem addL_at (ss l : List Int) (j : Nat) (hj : j < 12) : (addL ss l).getD j 0 = ss.getD j 0 + l.getD j 0 := by
  simp [addL, List.getD_eq_getElem?_getD, hj]
def zeroL : List Int := List.replicate 12 0
theorem zeroL_at (j : Nat) : zeroL.getD j 0 = 0 := by
  rw [List.getD_eq_getElem?_getD]
  unfold zeroL
  rw [List.getElem?_replicate]
  split <;> rfl
def fitsL (ss : List Int) : Bool := (List.range 12).all fun j => smOk (ss.getD j 0)
theorem fitsL_true {ss : List Int} (h : ∀ j, j < 12 → smOk (ss.getD j 0) = true) : fitsL ss = true := by unfold fitsL; rw [List.all_eq_true]; intro j hj; exact h j (by simpa using hj)
theorem fitsL_false {ss : List Int} (h : ¬ ∀ j, j < 12 → smOk (ss.getD j 0) = true) : fitsL ss = false := by
  cases e : fitsL ss
  · rfl
  · refine absurd (fun j hj => ?_) h
    unfold fitsL at e
    rw [List.all_eq_true] at e
    exact e j (by simpa using hj)
def bookL (ss : List Int) : List Int := if fitsL ss then ss else zeroL
end LedM

end Go.Proofs.Ythepahhidmihmaa
