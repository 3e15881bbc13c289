/-
  Ours: frame.step: half a byte of the register; the table where it lies.
-/
import Derived.Laws.Entries
import Derived.Test.YtcmfehabcklbpaaDoorFrmMath
import Derived.Test.YtcmfehabcklbpaaDoorProg
import Derived.Test.YtcmfehabcklbpaaDoorWirOwn
namespace Go.Proofs.YtcmfehabcklbpaaDoor

theorem wrapU32 (n : Int) : IntKind.u32.wrap n = n % 4294967296 := by simp [IntKind.wrap, IntKind.bits, IntKind.signed]
theorem wrapU8 (n : Int) : IntKind.u8.wrap n = n % 256 := by simp [IntKind.wrap, IntKind.bits, IntKind.signed]
theorem bv_nat {n : Nat} (k : Nat) (h : n < 2 ^ k) : (BitVec.ofInt k (n : Int)).toNat = n := by
  rw [BitVec.ofInt_natCast, BitVec.toNat_ofNat]; exact Nat.mod_eq_of_lt h
theorem xor32 (a b : Nat) (ha : a < 4294967296) (hb : b < 4294967296) : bits .xor .u32 (a : Int) (b : Int) = ((a ^^^ b : Nat) : Int) := by
  have hx : a ^^^ b < 2 ^ 32 := Nat.xor_lt_two_pow ha hb
  show IntKind.u32.wrap ((BitVec.ofInt 32 (a : Int) ^^^ BitVec.ofInt 32 (b : Int)).toNat : Int) = _
  rw [BitVec.toNat_xor, bv_nat 32 ha, bv_nat 32 hb, wrapU32]
  omega
theorem and32 (a b : Nat) (ha : a < 4294967296) (hb : b < 4294967296) : bits .and .u32 (a : Int) (b : Int) = ((a &&& b : Nat) : Int) := by
  have hx : a &&& b < 2 ^ 32 := Nat.and_lt_two_pow _ hb
  show IntKind.u32.wrap ((BitVec.ofInt 32 (a : Int) &&& BitVec.ofInt 32 (b : Int)).toNat : Int) = _
  rw [BitVec.toNat_and, bv_nat 32 ha, bv_nat 32 hb, wrapU32]
  omega
theorem or32 (a b : Nat) (ha : a < 4294967296) (hb : b < 4294967296) : bits .or .u32 (a : Int) (b : Int) = ((a ||| b : Nat) : Int) := by
  have hx : a ||| b < 2 ^ 32 := Nat.or_lt_two_pow ha hb
  show IntKind.u32.wrap ((BitVec.ofInt 32 (a : Int) ||| BitVec.ofInt 32 (b : Int)).toNat : Int) = _
  rw [BitVec.toNat_or, bv_nat 32 ha, bv_nat 32 hb, wrapU32]
  omega
theorem xor8 (a b : Nat) (ha : a < 256) (hb : b < 256) : bits .xor .u8 (a : Int) (b : Int) = ((a ^^^ b : Nat) : Int) := by
  have hx : a ^^^ b < 2 ^ 8 := Nat.xor_lt_two_pow ha hb
  show IntKind.u8.wrap ((BitVec.ofInt 8 (a : Int) ^^^ BitVec.ofInt 8 (b : Int)).toNat : Int) = _
  rw [BitVec.toNat_xor, bv_nat 8 ha, bv_nat 8 hb, wrapU8]
  omega
theorem and15 (r : Nat) (h : r < 4294967296) : bits .and .u32 (r : Int) 15 = ((r % 16 : Nat) : Int) := by
  rw [show (15 : Int) = ((15 : Nat) : Int) from rfl, and32 r 15 h (by decide), show (15 : Nat) = 2 ^ 4 - 1 from rfl, Nat.and_two_pow_sub_one_eq_mod]
theorem not32 (s : Nat) (h : s < 4294967296) : bits .xor .u32 IntKind.u32.max (s : Int) = ((CrcM.ones - s : Nat) : Int) := by
  rw [show IntKind.u32.max = ((CrcM.ones : Nat) : Int) by unfold CrcM.ones; rfl, xor32 _ s (by unfold CrcM.ones; decide) h, CrcM.turn_ones h]
theorem or_add {a x k : Nat} (h : a < 2 ^ k) : a ||| (x * 2 ^ k) = a + x * 2 ^ k := by
  rw [Nat.or_comm, Nat.mul_comm, ← Nat.two_pow_add_eq_or_of_lt h, Nat.add_comm]
end Go.Proofs.YtcmfehabcklbpaaDoor

namespace Go.Proofs.YtcmfehabcklbpaaDoor
open Go.RowKit

/-- The table of the sixteen words lies where the program looks it up. -/
def TabS (w : World) : Prop := ∀ m, m < 16 → w.cell? ⟨0, m, none⟩ = some (.int .u32 ((CrcM.bitN 4 m : Nat) : Int))
theorem TabS.lt {w : World} (h : TabS w) : 0 < w.heap.size := World.block_lt_of_cell? w _ (h 0 (by decide))
theorem TabS.below {w w' : World} (h : TabS w) (hb : Below w.heap.size w w') : TabS w' := fun m hm => (hb.cell (p := ⟨_, m, none⟩) h.lt).trans (h m hm)
theorem TabS.grown {w w' : World} {row : Option Nat} (h : TabS w) (hb : w.grownBy w' row) (hr : row ≠ some 0) : TabS w' := fun m hm => (World.cell?_of_block (hb.block _ h.lt (fun e => hr e.symm))).trans (h m hm)
theorem TabS.drewN {w : World} (h : TabS w) (n : Nat) : TabS (w.drewN n) := h

theorem half_int (r : Nat) (h : r < 4294967296) : bits .xor .u32 ((r : Int) / 16) ((CrcM.bitN 4 (r % 16) : Nat) : Int) = ((CrcM.bitN 4 r : Nat) : Int) := by
  rw [show ((r : Int) / 16) = ((r / 16 : Nat) : Int) by omega, xor32 _ _ (by omega) (CrcM.bitN_lt 4 (by omega)), CrcM.half (r := r)]

set_option maxHeartbeats 1000000 in
theorem step_at (r : Nat) (w : World) (h : r < 4294967296) (hT : TabS w) : Calls Tryd.prog 60 #[.int .u32 (r : Int)] w fun e w' => e = .returned (.int .u32 ((CrcM.bitN 4 r : Nat) : Int)) ∧ w' = w := by
  have e1 := and15 r h
  have e2 : Hid (bits .xor .u32 ((r : Int) / 16) ((CrcM.bitN 4 (r % 16) : Nat) : Int) = ((CrcM.bitN 4 r : Nat) : Int)) := half_int r h
  have hm : r % 16 < 16 := by omega
  have c := hT (r % 16) hm
  generalize r % 16 = m at *
  generalize ((CrcM.bitN 4 m : Nat) : Int) = t at *
  go_enter Tryd.func60, Tryd.ntmps60
  go_wp2_with fail
  go_ret
  rw [e2.out]
  exact ⟨rfl, rfl⟩
end Go.Proofs.YtcmfehabcklbpaaDoor
