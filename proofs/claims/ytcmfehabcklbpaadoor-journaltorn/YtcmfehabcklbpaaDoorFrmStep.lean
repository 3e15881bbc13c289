/-
  Ours: frame.step: half a byte of the register; the table where it lies.
-/
import Derived.Test.YtcmfehabcklbpaaDoorProg
import Derived.Test.YtcmfehabcklbpaaDoorWirOwn
import Derived.Test.YtcmfehabcklbpaaDoorFrmBits
namespace Go.Proofs.YtcmfehabcklbpaaDoor
open Go.RowKit

/-- The table of the sixteen words lies where the program looks it up. -/
def TabS (w : World) : Prop := ∀ m, m < 16 → w.cell? ⟨0, m, none⟩ = some (.int .u32 ((CrcM.bitN 4 m : Nat) : Int))
theorem TabS.lt {w : World} (h : TabS w) : 0 < w.heap.size := World.block_lt_of_cell? w _ (h 0 (by decide))
theorem TabS.below {w w' : World} (h : TabS w) (hb : Below w.heap.size w w') : TabS w' := fun m hm => (hb.cell (p := ⟨_, m, none⟩) h.lt).trans (h m hm)
theorem TabS.grown {w w' : World} {row : Option Nat} (h : TabS w) (hb : w.grownBy w' row) (hr : row ≠ some 0) : TabS w' := fun m hm => (World.cell?_of_block (hb.block _ h.lt (fun e => hr e.symm))).trans (h m hm)
theorem TabS.drewN {w : World} (h : TabS w) (n : Nat) : TabS (w.drewN n) := h

theorem half_int (r : Nat) (h : r < 4294967296) : bits .xor .u32 ((r : Int) / 16) ((CrcM.bitN 4 (r % 16) : Nat) : Int) = ((CrcM.bitN 4 r : Nat) : Int) := by
  rw [show ((r : Int) / 16) = ((r / 16 : Nat) : Int) by omega, xor32 _ _ (by omega) (CrcM.bitN_lt 4 (by omega)), CrcM.half (r := r)]

set_option maxHeartbeats 1000000 in
theorem step_at (r : Nat) (w : World) (h : r < 4294967296) (hT : TabS w) : Calls Tryd.prog 60 #[.int .u32 (r : Int)] w fun e w' => e = .returned (.int .u32 ((CrcM.bitN 4 r : Nat) : Int)) ∧ w' = w := by
  have e1 := and15 r h
  have e2 : Hid (bits .xor .u32 ((r : Int) / 16) ((CrcM.bitN 4 (r % 16) : Nat) : Int) = ((CrcM.bitN 4 r : Nat) : Int)) := half_int r h
  have hm : r % 16 < 16 := by omega
  have c := hT (r % 16) hm
  generalize r % 16 = m at *
  generalize ((CrcM.bitN 4 m : Nat) : Int) = t at *
  go_enter Tryd.func60, Tryd.ntmps60
  go_wp2_with fail
  go_ret
  rw [e2.out]
  exact ⟨rfl, rfl⟩
end Go.Proofs.YtcmfehabcklbpaaDoor
