/-
  Ours: rows of instalments that a call has made.
-/
import Derived.Test.YtkabfdajpilomabDoorOwn
import Derived.Test.YtkabfdajpilomabDoorProg
import Derived.Test.YtkabfdajpilomabDoorCalNum
namespace Go.Proofs.YtkabfdajpilomabDoor
open Go.RowKit

theorem infoInst : (Tryd.prog.info? 30).map (fun i => (i.zero, i.size, i.bytes)) = some (some (.agg #[.int .i64 0, .int .i64 0, .int .i64 0, .bool false]), 4, 32) := by kernel_rfl

/-- An instalment's four cells. -/
def instC (x : Int × Int × Int) : List Value := [.int .i64 x.1, .int .i64 x.2.1, .int .i64 x.2.2, .bool false]
def RowI (base : Nat) (w : World) (v : Value) (rs : List (Int × Int × Int)) : Prop := w.ownsRow base 30 4 v rs.length (rs.flatMap instC)

theorem RowI.nil (base : Nat) (w : World) : RowI base w (.slice none 0 0) [] := World.ownsRow_nil _ _ _ _

theorem instC_length (rs : List (Int × Int × Int)) : (rs.flatMap instC).length = rs.length * 4 := by
  induction rs with
  | nil => rfl
  | cons x rs ih => simp only [List.flatMap_cons, List.length_append, ih, List.length_cons]; show 4 + _ = _; omega
theorem instC_get (rs : List (Int × Int × Int)) (i j : Nat) (hi : i < rs.length) (hj : j < 4) : (rs.flatMap instC)[4 * i + j]? = (instC (rs.getD i (0, 0, 0)))[j]? := by
  induction rs generalizing i with
  | nil => simp at hi
  | cons x rs ih =>
    simp only [List.flatMap_cons]
    have lx : (instC x).length = 4 := rfl
    cases i with
    | zero => rw [List.getElem?_append_left (by omega)]; simp
    | succ i =>
      rw [List.getElem?_append_right (by omega), lx]
      have := ih i (by simpa using hi)
      rw [show 4 * (i + 1) + j - 4 = 4 * i + j by omega, this]
      simp

theorem RowI.later {base : Nat} {w w' : World} {v : Value} {rs : List (Int × Int × Int)} (h : RowI base w v rs) (hb : Below w.heap.size w w') : RowI base w' v rs := by
  refine h.kept (row := none) ⟨hb.os, hb.tape, hb.output, hb.size, fun k hk _ => hb.block k hk⟩ ?_
  cases hv : v.ownBlock <;> simp
theorem RowI.mono {base base' : Nat} {w : World} {v : Value} {rs : List (Int × Int × Int)} (h : RowI base w v rs) (hb : base' ≤ base) : RowI base' w v rs := by
  refine ⟨h.1, ?_⟩
  rcases h.2 with hn | ⟨g, cap, cur, hv, hg, rest⟩
  · exact .inl hn
  · exact .inr ⟨g, cap, cur, hv, Nat.le_trans hb hg, rest⟩

/-- How such a row reads. -/
structure InstOk (w : World) (a : Option Addr) (rs : List (Int × Int × Int)) : Prop where
  len : rs.length ≤ 9223372036854775807
  cells : rs = [] ∨ ∃ g off, a = some ⟨g, off, none⟩ ∧ ∀ i, i < rs.length → w.cell? ⟨g, off + i * 4, none⟩ = some (.int .i64 (rs.getD i (0, 0, 0)).1) ∧ w.cell? ⟨g, off + i * 4 + 1, none⟩ = some (.int .i64 (rs.getD i (0, 0, 0)).2.1) ∧ w.cell? ⟨g, off + i * 4 + 2, none⟩ = some (.int .i64 (rs.getD i (0, 0, 0)).2.2) ∧ w.cell? ⟨g, off + i * 4 + 3, none⟩ = some (.bool false)
theorem InstOk.up {w w' : World} {a : Option Addr} {rs : List (Int × Int × Int)} (h : InstOk w a rs) (u : Up w w') : InstOk w' a rs := by
  refine ⟨h.len, ?_⟩
  rcases h.cells with e | ⟨g, off, e, hc⟩
  · exact .inl e
  · exact .inr ⟨g, off, e, fun i hi => ⟨u.cell (hc i hi).1, u.cell (hc i hi).2.1, u.cell (hc i hi).2.2.1, u.cell (hc i hi).2.2.2⟩⟩

theorem RowI.form {base : Nat} {w : World} {v : Value} {rs : List (Int × Int × Int)} (h : RowI base w v rs) (hl : rs.length ≤ 9223372036854775807) : ∃ a cap, v = .slice a rs.length cap ∧ InstOk w a rs := by
  have hc := fun (g : Nat) (hg : v.ownBlock = some g) => World.ownsRow.cells h hg
  rcases h.2 with ⟨hv, h0⟩ | ⟨g, cap, cur, rfl, hb, hg, hn, hm, hs, ht⟩
  · have : rs = [] := List.length_eq_zero_iff.1 h0
    subst this
    exact ⟨none, 0, hv, by simp, .inl rfl⟩
  · refine ⟨some ⟨g, 0, none⟩, cap, rfl, hl, .inr ⟨g, 0, rfl, fun i hi => ?_⟩⟩
    have hadd : ∀ j : Nat, (⟨g, 0, none⟩ : Addr).add j = ⟨g, j, none⟩ := fun j => by unfold Addr.add; split <;> simp_all
    have key : ∀ j, j < 4 → ∀ u, (instC (rs.getD i (0, 0, 0)))[j]? = some u → w.cell? ⟨g, 0 + i * 4 + j, none⟩ = some u := fun j hj u hu => by
      rw [← hadd, show 0 + i * 4 + j = 4 * i + j by omega]
      exact hc g rfl _ _ ((instC_get rs i j hi hj).trans hu)
    exact ⟨key 0 (by omega) _ rfl, key 1 (by omega) _ rfl, key 2 (by omega) _ rfl, key 3 (by omega) _ rfl⟩

/-- 'v = append(v, row)' on a row of the call's own. -/
theorem wpList_pushI {P : Program} {wr : World} {ops : Array Oper} {rest : List Oper} {o : Oper} {a : Act} {Q : Exit → Act → World → Prop} (hgd : o.guard = none) (s x : Operand) (t : TypeId)
    (ho : o.op = .call { callee := .builtin .append, args := #[s, x], argTypes := #[t, t] })
    (i : TypeInfo) (ht : P.underlying t = some (.slice 30)) (hi : P.info? 30 = some i) (z : Value) (hz : i.zero = some z) (hzc : z.cells.size = 4) (hsize : i.size = 4) (hby : i.bytes = 32)
    (base B : Nat) (w : World) (v : Value) (rs : List (Int × Int × Int)) (d e p : Int) (hs : a.eval s = v) (hown : RowI base wr v rs) (hnx : Below B w wr) (hB : B ≤ base) (hsz : base ≤ wr.heap.size)
    (hx : a.eval x = .slice (some ⟨wr.heap.size, 0, none⟩) 1 1) (hl : rs.length < 1048576)
    (h : ∀ v' w', RowI base w' v' (rs ++ [(d, e, p)]) → Below B w w' → base ≤ w'.heap.size → wpList P ops Q rest (a.put o.dst v') w') :
    wpList P ops Q (o :: rest) a (wr.alloc (.cells #[.int .i64 d, .int .i64 e, .int .i64 p, .bool false] 30)) := by
  refine wpList_append_own _ hgd s x t ho base _ i z 4 32 ht hi hz hsize hby hzc (by decide) v rs.length (rs.flatMap instC) hs (World.ownsRow.alloc hown _) ⟨wr.heap.size, 0, none⟩ 1 1 (instC (d, e, p)) hx rfl ?_ ?_ ?_ ?_ ?_ ?_
  · intro j u hj
    match j, hj with
    | 0, hj => simp [instC] at hj; subst hj; simp [Addr.add]
    | 1, hj => simp [instC] at hj; subst hj; simp [Addr.add]
    | 2, hj => simp [instC] at hj; subst hj; simp [Addr.add]
    | 3, hj => simp [instC] at hj; subst hj; simp [Addr.add]
  · intro u hu; simp [instC] at hu; rcases hu with rfl | rfl | rfl | rfl <;> rfl
  · unfold maxLen; omega
  · omega
  · simp; omega
  · intro v' w' hown' hgrow _
    have r1 : RowI base w' v' (rs ++ [(d, e, p)]) := by simpa [RowI] using hown'
    refine h v' w' r1 ((hnx.alloc (by omega) _).grown hgrow (by simp; omega) (fun j hj => by have := (hown.lt j hj).1; omega)) ?_
    have := hgrow.size
    simp at this
    omega
end Go.Proofs.YtkabfdajpilomabDoor
