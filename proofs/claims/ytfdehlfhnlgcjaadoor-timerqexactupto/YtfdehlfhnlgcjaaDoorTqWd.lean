/-
  Ours: the word that stands for a number.
-/
import Derived.Test.YtfdehlfhnlgcjaaDoorTqMove
import Derived.Test.YtfdehlfhnlgcjaaDoorShelf
import Derived.Sort.Grow
import Derived.Lib.ItoaLen
namespace Go.Proofs.YtfdehlfhnlgcjaaDoor
open Go.RowKit TqM

theorem grow_below (w : World) (k : Nat) (os : Array Obj) : Below w.heap.size w (Go.Sort.grow (w.drewN k) os) := by
  refine ⟨rfl, rfl, rfl, ?_, fun b hb => ?_⟩
  · show w.heap.size ≤ (w.heap ++ os).size
    rw [Array.size_append]; omega
  · show (w.heap ++ os)[b]? = w.heap[b]?
    rw [Array.getElem?_append_left hb]
/-- The library's table of powers of ten. -/
def TabP (w : World) : Prop := Lib.TabIs Tryd.prog w "internal/strconv.uint64pow10" .u64 Lib.pow10Tab
theorem gP : Tryd.prog.globalNamed "internal/strconv.uint64pow10" = some 0 := by kernel_rfl
theorem TabP.lt {w : World} (h : TabP w) : 0 < w.heap.size := World.block_lt_of_cell? _ _ (h.cell gP 0 (by decide))
theorem TabP.below {B : Nat} {w w' : World} (h : TabP w) (hB : 0 < B) (b : Below B w w') : TabP w' := var?_below b gP hB h
def wdB (n : Int) : ByteArray := ⟨(118 :: Lib.itoa n).toArray⟩
def wdP (x : Ky × Int) : Ky × ByteArray := (x.1, wdB x.2)

set_option maxRecDepth 20000 in
set_option maxHeartbeats 2000000 in
theorem word_at (n : Int) (hn : LedM.i64 n) (w : World) (ht : TabP w) :
    Calls Tryd.prog 15 #[.int .i64 n] w fun e w' => e = .returned (.string (wdB n)) ∧ Below w.heap.size w w' := by
  have IT : Hid (∀ w : World, TabP w → Calls Tryd.prog 30 #[.int .i64 n] w fun e w' => e = .returned (.string ⟨(Lib.itoa n).toArray⟩) ∧ Below w.heap.size w w') := fun w ht => (Tryd.strconv_Itoa n hn.1 hn.2 w ht).mono fun e w' ⟨he, j, os, hw⟩ => ⟨he, by rw [hw]; exact grow_below w j os⟩
  have HT : Hid (TabP w) := ht
  have LL : ¬ 9223372036854775807 < 1 + (Lib.itoa n).length := by have := Lib.itoa_length_le n hn.1 hn.2; omega
  clear ht hn
  go_enter Tryd.func15, Tryd.ntmps15
  go_wp2_with fail
  refine (IT.out _ HT.out).mono ?_
  rintro e w2 ⟨rfl, b2⟩
  have F : Hid (Below w.heap.size w w2) := b2
  clear b2 HT IT
  go_wp2_with fail
  go_ret
  refine ⟨?_, F.out⟩
  congr 2
end Go.Proofs.YtfdehlfhnlgcjaaDoor
