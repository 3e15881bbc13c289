/-
  Ours: Total: books as they read; the program's answer.
-/
import Derived.Test.YtmennknknecgjaaDoorLedSumsP
namespace Go.Proofs.YtmennknknecgjaaDoor
open Go.RowKit LedM

namespace LedM
def bN (bs : List (List Int)) (i : Nat) : List Int := bs.getD i zeroL
theorem bN_at {bs : List (List Int)} {i : Nat} (h : i < bs.length) : bN bs i = bs[i] := by simp [bN, List.getD_eq_getElem?_getD, List.getElem?_eq_getElem h]
theorem take_bN {bs : List (List Int)} {i : Nat} (h : i < bs.length) : bs.take (i + 1) = bs.take i ++ [bN bs i] := by
  rw [bN_at h, List.take_add_one, List.getElem?_eq_getElem h]; rfl
/-- The exact sums, account by account. -/
def sumB (bs : List (List Int)) : List Int := (List.range 12).map fun j : Nat => total (bs.map fun b => b.getD j 0)
theorem sumB_len (bs : List (List Int)) : (sumB bs).length = 12 := by simp [sumB]
theorem sumB_at (bs : List (List Int)) (j : Nat) (hj : j < 12) : (sumB bs).getD j 0 = total (bs.map fun b => b.getD j 0) := by simp [sumB, List.getD_eq_getElem?_getD, hj]
theorem sumB_push (bs : List (List Int)) (b : List Int) : sumB (bs ++ [b]) = addL (sumB bs) b := ext12 (sumB_len _) (addL_len _ _) fun j hj => by
  rw [sumB_at _ j hj, addL_at _ _ j hj, sumB_at _ j hj, List.map_append, total_append]; simp [total]
theorem sumB_nil : sumB [] = zeroL := by decide +kernel
theorem sum_bound : ∀ {bs : List (List Int)} (j : Nat), (∀ b ∈ bs, BkOk b) → -(9223372036854775808 * (bs.length : Int)) ≤ total (bs.map fun b => b.getD j 0) ∧ total (bs.map fun b => b.getD j 0) ≤ 9223372036854775808 * (bs.length : Int)
  | [], j, _ => by simp [total]
  | b :: r, j, h => by
    have ih := sum_bound (bs := r) j (fun x hx => h x (by simp [hx]))
    have hb := (h b (by simp)).2 j
    simp only [List.map_cons, total, List.length_cons]
    unfold i64 at hb
    omega
end LedM
/-- The slice value v reads as the books bs. -/
def RdBk (w : World) (v : Value) (bs : List (List Int)) : Prop :=
  ∃ ao cap, v = .slice ao bs.length cap ∧ bs.length ≤ cap ∧ (ao = none → cap = 0) ∧ ∀ i, i < bs.length → ∃ g o, ao = some ⟨g, o, none⟩ ∧ g < w.heap.size ∧ w.rangeAt g (o + i * 12) (bkL (bN bs i))
theorem range_laterB {w w' : World} {g o : Nat} {cs : List Value} (h : w.rangeAt g o cs) (hg : g < w.heap.size) (hb : Below w.heap.size w w') : w'.rangeAt g o cs := fun j v hv => (hb.cell (p := ⟨g, o + j, none⟩) hg).trans (h j v hv)
theorem RdBk.later {w w' : World} {v : Value} {bs : List (List Int)} (h : RdBk w v bs) (hb : Below w.heap.size w w') : RdBk w' v bs := by
  obtain ⟨ao, cap, rfl, h1, h2, h3⟩ := h
  refine ⟨ao, cap, rfl, h1, h2, fun i hi => ?_⟩
  obtain ⟨g, o, e, lt, r⟩ := h3 i hi
  exact ⟨g, o, e, Nat.lt_of_lt_of_le lt hb.size, range_laterB r lt hb⟩
theorem infoSl {ss : List Int} (h : ss.length = 12) : (Tryd.prog.info? 75).map (·.size) = some (smL ss).length := by rw [smL_len, h]; exact infoS
theorem infoBl {l : List Int} (h : l.length = 12) : (Tryd.prog.info? 27).map (·.size) = some (bkL l).length := by rw [bkL_len, h]; exact cellsBk
theorem store_all {cs vs : List Value} (h : vs.length = cs.length) : cs.take 0 ++ vs ++ cs.drop (0 + vs.length) = vs := by rw [List.take_zero, List.nil_append, List.drop_eq_nil_of_le (by omega), List.append_nil]
end Go.Proofs.YtmennknknecgjaaDoor
