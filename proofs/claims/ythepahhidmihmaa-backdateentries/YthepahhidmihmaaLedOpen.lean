/-
  Ours: a book that came in, opened.
-/
import Derived.Test.YthepahhidmihmaaWirRow
import Derived.Test.YthepahhidmihmaaLedOwn
import Derived.ChangeArms
import Derived.OpenShut
import Derived.Deep.Slices
namespace Go.Proofs.Ythepahhidmihmaa
open Go.ChangeShapes Go.WideShapes Go.ChangeAt Go.RowKit

section
variable {H : Type} {enc : TypeId × Value → H} {W : World}
theorem take_one {cs : List Value} {i : Nat} {v : Value} (h : (cs.drop i).take 1 = [v]) : cs[i]? = some v := by
  have := congrArg (·[0]?) h
  simpa [List.getElem?_take, List.getElem?_drop] using this

set_option maxRecDepth 100000 in
theorem book_cells {fuel : Nat} {cs : List Value} {x : DataW H × List MemPlace} (hf : DataW.trod enc Try.prog W 0 (fun _ => true) true fuel 25 cs = some x) :
    ∃ l : List Int, cs = bkL l ∧ LedM.BkOk l := by
  obtain ⟨ys, kk, _, _, hlen, hyl, hfl⟩ := DataW.trod_struct Try.underlying25 hf
  have cB : Try.prog.cellsOf 25 = 12 := by kernel_rfl
  have cN : Try.prog.cellsOf 23 = 12 := by kernel_rfl
  have cI : Try.prog.cellsOf 2 = 1 := by kernel_rfl
  rw [cB] at hlen
  have t0 := hfl 0 _ rfl
  simp [cN] at t0
  rw [List.take_of_length_le (by omega)] at t0
  match ys, hyl with
  | [y0], _ =>
    obtain ⟨xs, m, _, _, _, hn, hg⟩ := DataW.trod_array Try.underlying23 t0
    simp only [cI, Nat.mul_one] at hg
    have key : ∀ i, i < 12 → ∃ n : Int, cs[i]? = some (.int .i64 n) ∧ -9223372036854775808 ≤ n ∧ n ≤ 9223372036854775807 := fun i hi => by
      have f0 := hg i hi
      rw [List.getElem?_eq_getElem (by omega)] at f0
      obtain ⟨n, hc, _, hw⟩ := DataW.trod_int Try.underlying2 f0
      exact ⟨n, take_one hc, bounds hw⟩
    have vint : ∀ v ∈ cs, ∃ n : Int, v = .int .i64 n ∧ -9223372036854775808 ≤ n ∧ n ≤ 9223372036854775807 := fun v hv => by
      obtain ⟨i, hi, e⟩ := List.getElem_of_mem hv
      obtain ⟨n, h1, h2⟩ := key i (by omega)
      rw [List.getElem?_eq_getElem hi, e] at h1
      exact ⟨n, Option.some.inj h1, h2⟩
    have ex : ∀ cs : List Value, (∀ v ∈ cs, ∃ n : Int, v = .int .i64 n ∧ -9223372036854775808 ≤ n ∧ n ≤ 9223372036854775807) → ∃ l : List Int, cs = bkL l ∧ ∀ n ∈ l, -9223372036854775808 ≤ n ∧ n ≤ 9223372036854775807 := by
      intro cs
      induction cs with
      | nil => intro _; exact ⟨[], rfl, by simp⟩
      | cons v r ih =>
        intro h
        obtain ⟨n, rfl, hn⟩ := h v (by simp)
        obtain ⟨l, rfl, hl⟩ := ih (fun v hv => h v (by simp [hv]))
        exact ⟨n :: l, rfl, fun m hm => (List.mem_cons.1 hm).elim (fun e => by rw [e]; exact hn) (hl m)⟩
    obtain ⟨l, rfl, hl⟩ := ex cs vint
    rw [bkL_len] at hlen
    refine ⟨l, rfl, hlen, fun k => ?_⟩
    rw [List.getD_eq_getElem?_getD]
    by_cases hk : k < l.length
    · rw [List.getElem?_eq_getElem hk]; exact hl _ (List.getElem_mem hk)
    · rw [List.getElem?_eq_none (by omega)]; exact ⟨by simp, by simp⟩

theorem book_open {base : Nat} {v : Value} {d : DataW H} {ps : List MemPlace} (hval : Value.okWide Try.prog W .any base 25 v)
    (hd : DataW.Trod enc Try.prog W 0 (fun _ => true) true 25 v d ps) : ∃ l : List Int, v = .agg (bkL l).toArray ∧ LedM.BkOk l := by
  obtain ⟨cs, rfl, hs⟩ := okWide_struct Try.underlying25 hval
  obtain ⟨fuel, hf⟩ := hd
  obtain ⟨l, e, hl⟩ := book_cells hf
  refine ⟨l, ?_, hl⟩
  rw [← e]
  simp [Value.cells]
end
end Go.Proofs.Ythepahhidmihmaa
