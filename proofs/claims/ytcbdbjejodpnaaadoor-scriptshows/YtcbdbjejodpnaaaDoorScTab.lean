/-
  Ours: the tables that the rows of replies list, as the walks ask them; a reply that came in, opened.
-/
import Derived.Test.YtcbdbjejodpnaaaDoorWirRow
import Derived.Test.YtcbdbjejodpnaaaDoorScApp
import Derived.Test.YtcbdbjejodpnaaaDoorTie
import Derived.Test.YtcbdbjejodpnaaaDoorCards
import Derived.LaidMore
import Derived.Stop.LaidErr
import Derived.Lib.LaidTab
import Derived.ChangeArms
import Derived.Deep.DeepHandedRow
import Derived.MakeChecks
import Derived.LaidHandle
namespace Go.Proofs.YtcbdbjejodpnaaaDoor
open Go.ChangeShapes Go.WideShapes Go.ChangeAt Go.RowKit

abbrev lstD : List (String × DataW Unit) := [("math/bits.deBruijn32tab", Rows.laid_math_bits_deBruijn32tab), ("math/bits.deBruijn64tab", Rows.laid_math_bits_deBruijn64tab), ("internal/strconv.uint64pow10", Rows.laid_internal_strconv_uint64pow10)]
theorem tabD_of {W : World} (h : laidMetH Tryd.prog lstD W) : TabW W := by
  unfold lstD at h
  rw [Go.MakeChecks.laidMetH_plain _ _ _ (by kernel_rfl)] at h
  exact Lib.tabIs_of_head (zs := Lib.pow10Tab) gPw (by kernel_rfl) Tryd.underlying46 Tryd.underlying36 (by kernel_rfl) (by kernel_rfl) h.tail.tail
/-- A world for the witness: the tables as their initialisers lay them. -/
noncomputable def laidWorld (os : Os) : World := World.doorLaid Tryd.prog 400 os

section
variable {H : Type} {enc : TypeId × Value → H} {W : World}
theorem slice_cells {t e : TypeId} {k : IntKind} {fuel : Nat} {v : Value} {x : DataW H × List MemPlace} (ht : Tryd.prog.underlying t = some (.slice e)) (he : Tryd.prog.underlying e = some (.int k)) (hc : Tryd.prog.cellsOf e = 1)
    (h : DataW.trod enc Tryd.prog W 0 (fun _ => true) true fuel t [v] = some x) : ∃ a n c, v = .slice a n c := by
  rcases open_ints ht he hc h with ⟨hcs, _⟩ | ⟨x, l, c, zs, hcs, _⟩
  · exact ⟨none, 0, 0, by simpa using hcs⟩
  · exact ⟨some x, l, c, by simpa using hcs⟩
set_option maxRecDepth 100000 in
theorem reply_open {base : Nat} {v : Value} {d : DataW H} {ps : List MemPlace} (hval : Value.okWide Tryd.prog W .any base 25 v)
    (hd : DataW.Trod enc Tryd.prog W 0 (fun _ => true) true 25 v d ps) : ∃ (err : Int) (zs : List Int) (a : Option Addr) (c : Nat), v = .agg #[.int .i64 err, .slice a zs.length c] ∧ -9223372036854775808 ≤ err ∧ err ≤ 9223372036854775807 ∧ Rd W (.slice a zs.length c) (zs.map iv) ∧ ∀ z ∈ zs, -9223372036854775808 ≤ z ∧ z ≤ 9223372036854775807 := by
  obtain ⟨cs, rfl, hs⟩ := okWide_struct Tryd.underlying25 hval
  obtain ⟨fuel, hf⟩ := hd
  obtain ⟨ys, kk, hkk, hdx, hlen, hyl, hfl⟩ := DataW.trod_struct Tryd.underlying25 hf
  have cE : Tryd.prog.cellsOf 22 = 1 := by kernel_rfl
  have cS : Tryd.prog.cellsOf 23 = 1 := by kernel_rfl
  have cT : Tryd.prog.cellsOf 25 = 2 := by kernel_rfl
  rw [cT] at hs
  obtain ⟨l⟩ := cs
  simp at hs
  simp only [Value.cells] at hfl
  match ys, hyl, l, hs with
  | [y0, y1], _, [v0, v1], _ =>
    have t0 := hfl 0 _ rfl
    have t1 := hfl 1 _ rfl
    simp [cE, cS] at t0 t1
    obtain ⟨n0, e0, _, f0⟩ := DataW.trod_int Tryd.underlying22 t0
    obtain ⟨a, nn, cc, rfl⟩ := slice_cells Tryd.underlying23 Tryd.underlying2 (by kernel_rfl) t1
    obtain ⟨bs, l1, r1, w1, dd⟩ := ints_open (a := a) (len := nn) (cap := cc) (d := y1.1) (ps := y1.2) Tryd.underlying23 Tryd.underlying2 (by kernel_rfl) ⟨_, t1⟩
    simp at e0
    subst e0 l1
    exact ⟨n0, bs, a, cc, rfl, (bounds f0).1, (bounds f0).2, r1, fun z hz => bounds (w1 z hz)⟩
end
end Go.Proofs.YtcbdbjejodpnaaaDoor
