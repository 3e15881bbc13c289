/-
  Ours: the journal's frames: recordFrame, headerFrame, marked.
-/
import Derived.Test.YtcmfehabcklbpaaDoorJouCat
namespace Go.Proofs.YtcmfehabcklbpaaDoor
open Go.RowKit

namespace JM
def hp (ep : Nat) (sn : List Nat) : List Nat := 72 :: (put ep ++ sn)
def rp (r : List Nat) : List Nat := 82 :: r
/-- The marked frame at the front of these bytes: what stands behind the mark, and the frame's size. -/
def mkF (m : Nat) (l : List Nat) : Option (List Nat × Nat) :=
  if (CrcM.whole l).1 = 0 then none else match CrcM.pay l with
  | [] => none
  | x :: r => if x = m then some (r, (CrcM.whole l).1) else none
end JM
open JM

theorem rdv_new (T : TypeId) (vs : List Value) (w : World) : Rd (w.alloc (.cells vs.toArray T)) (.slice (some ⟨w.heap.size, 0, none⟩) vs.length vs.length) vs := by
  refine ⟨_, _, rfl, Nat.le_refl _, (fun h => by cases h), fun i hi => ⟨w.heap.size, 0, rfl, by simp, ?_⟩⟩
  exact (Blk.new T vs w).cell (0 + i) _ (by rw [Nat.zero_add]; exact List.getElem?_eq_getElem hi)

set_option maxRecDepth 40000 in
set_option maxHeartbeats 1000000 in
theorem recordFrame_at (r : List Nat) (ad : Option Addr) (n c : Nat) (w : World) (hb : ∀ b ∈ r, b < 256) (hl : r.length < 4194304) (h : RdB w (.slice ad n c) r) (hT : TabS w) :
    Calls Tryd.prog 34 #[.slice ad n c] w (NewT w (CrcM.enc (rp r))) := by
  have W2 : Below w.heap.size w ((w.alloc (.cells #[.int .u8 82] 5)).alloc (.cells #[.slice (some ⟨w.heap.size, 0, none⟩) 1 1, .slice ad n c] 22)) := below_trans (below_alloc _ _) (below_alloc _ _)
  have CC : Hid (Calls Tryd.prog 48 #[.slice (some ⟨w.heap.size + 1, 0, none⟩) 2 2] ((w.alloc (.cells #[.int .u8 82] 5)).alloc (.cells #[.slice (some ⟨w.heap.size, 0, none⟩) 1 1, .slice ad n c] 22)) (NewB ((w.alloc (.cells #[.int .u8 82] 5)).alloc (.cells #[.slice (some ⟨w.heap.size, 0, none⟩) 1 1, .slice ad n c] 22)) (rp r))) := by
    have e : [[82], r].flatten = rp r := by simp [rp]
    rw [← e]
    have h1 : RdB (w.alloc (.cells #[.int .u8 82] 5)) (.slice (some ⟨w.heap.size, 0, none⟩) 1 1) [82] := rdv_new 5 [.int .u8 82] w
    have h2 := rdv_new 22 [.slice (some ⟨w.heap.size, 0, none⟩) 1 1, .slice ad n c] (w.alloc (.cells #[.int .u8 82] 5))
    rw [show (w.alloc (.cells #[.int .u8 82] 5)).heap.size = w.heap.size + 1 by simp] at h2
    refine concat_at [.slice (some ⟨w.heap.size, 0, none⟩) 1 1, .slice ad n c] [[82], r] _ _ h2 rfl (by simp) (fun i hi => ?_) (by simp [lenS]; omega)
    match i, hi with
    | 0, _ => exact h1.later (below_alloc _ _)
    | 1, _ => exact h.later W2
  have EN : Hid (∀ v w', RdB w' v (rp r) → TabS w' → Calls Tryd.prog 47 #[v] w' (NewT w' (CrcM.enc (rp r)))) := fun v w' h1 h2 => encode_at (rp r) v w' (fun b hb' => by rcases List.mem_cons.1 hb' with rfl | h; decide; exact hb b h) (by simp [rp]; omega) h1 h2
  have TT : Hid (∀ w', Below w.heap.size w w' → TabS w') := fun w' h => hT.below h
  have BB : Hid (Below w.heap.size w ((w.alloc (.cells #[.int .u8 82] 5)).alloc (.cells #[.slice (some ⟨w.heap.size, 0, none⟩) 1 1, .slice ad n c] 22))) := W2
  clear W2 hb hl h hT
  generalize rp r = p at *
  generalize CrcM.enc p = f at *
  go_enter Tryd.func34, Tryd.ntmps34
  go_wp2_with fail
  refine CC.out.mono ?_
  rintro e w1 ⟨v1, rfl, r1, b1⟩
  have B1 : Hid (Below w.heap.size w w1) := below_trans BB.out b1
  have R1 : Hid (RdB w1 v1 p) := r1.rd
  clear r1 b1
  go_wp2_with fail
  refine (EN.out _ _ R1.out (TT.out _ B1.out)).mono ?_
  rintro e w2 ⟨a2, c2, rfl, r2, b2⟩
  have B2 : Hid (Below w.heap.size w w2) := below_trans B1.out b2
  have R2 : Hid (RowB 5 w.heap.size w2 (.slice a2 f.length c2) f) := RowV.mono r2 B1.out.size
  clear r2 b2
  go_wp2_with fail
  go_ret2
  exact ⟨_, _, rfl, R2.out, B2.out⟩

set_option maxRecDepth 40000 in
set_option maxHeartbeats 1000000 in
theorem headerFrame_at (ep : Nat) (sn : List Nat) (ad : Option Addr) (n c : Nat) (w : World) (he : ep ≤ 9223372036854775807) (hb : ∀ b ∈ sn, b < 256) (hl : sn.length < 4194290) (h : RdB w (.slice ad n c) sn) (hT : TabS w) :
    Calls Tryd.prog 37 #[.int .i64 (ep : Int), .slice ad n c] w (NewT w (CrcM.enc (hp ep sn))) := by
  have PU : Hid (∀ w, Calls Tryd.prog 49 #[.int .u64 (ep : Int)] w (NewB w (put ep))) := fun w => putUint_at ep (by omega) w
  have P10 := put_len10 ep (by omega)
  have CC : Hid (∀ (a1 : Option Addr) (n1 c1 : Nat) (w1 : World), Below w.heap.size w w1 → RdB w1 (.slice (some ⟨w.heap.size, 0, none⟩) 1 1) [72] → RdB w1 (.slice a1 n1 c1) (put ep) →
      Calls Tryd.prog 48 #[.slice (some ⟨w1.heap.size, 0, none⟩) 3 3] (w1.alloc (.cells #[.slice (some ⟨w.heap.size, 0, none⟩) 1 1, .slice a1 n1 c1, .slice ad n c] 22)) (NewB (w1.alloc (.cells #[.slice (some ⟨w.heap.size, 0, none⟩) 1 1, .slice a1 n1 c1, .slice ad n c] 22)) (hp ep sn))) := fun a1 n1 c1 w1 hw1 h1 h2 => by
    have e : [[72], put ep, sn].flatten = hp ep sn := by simp [hp]
    rw [← e]
    have h3 := rdv_new 22 [.slice (some ⟨w.heap.size, 0, none⟩) 1 1, .slice a1 n1 c1, .slice ad n c] w1
    refine concat_at [.slice (some ⟨w.heap.size, 0, none⟩) 1 1, .slice a1 n1 c1, .slice ad n c] [[72], put ep, sn] _ _ h3 rfl (by simp) (fun i hi => ?_) (by simp [lenS]; omega)
    match i, hi with
    | 0, _ => exact h1.later (below_alloc _ _)
    | 1, _ => exact h2.later (below_alloc _ _)
    | 2, _ => exact (h.later hw1).later (below_alloc _ _)
  have EN : Hid (∀ v w', RdB w' v (hp ep sn) → TabS w' → Calls Tryd.prog 47 #[v] w' (NewT w' (CrcM.enc (hp ep sn)))) := fun v w' h1 h2 => encode_at (hp ep sn) v w' (fun b hb' => by
    rcases List.mem_cons.1 hb' with rfl | h
    · decide
    · rcases List.mem_append.1 h with h | h
      · exact put_byte ep b h
      · exact hb b h) (by simp [hp]; omega) h1 h2
  have TT : Hid (∀ w', Below w.heap.size w w' → TabS w') := fun w' h => hT.below h
  have R0 : Hid (RdB (w.alloc (.cells #[.int .u8 72] 5)) (.slice (some ⟨w.heap.size, 0, none⟩) 1 1) [72]) := rdv_new 5 [.int .u8 72] w
  have B0 : Hid (Below w.heap.size w (w.alloc (.cells #[.int .u8 72] 5))) := below_alloc _ _
  clear hb hl h hT P10
  generalize hp ep sn = p at *
  generalize CrcM.enc p = f at *
  generalize put ep = q at *
  go_enter Tryd.func37, Tryd.ntmps37
  go_wp2_with fail
  refine (PU.out _).mono ?_
  rintro e w1 ⟨v1, rfl, r1, b1⟩
  have rr := r1.rd
  obtain ⟨a1, c1, hv1, -, -⟩ := rr.len
  rw [List.length_map] at hv1
  subst hv1
  have B1 : Hid (Below w.heap.size w w1) := below_trans B0.out b1
  have C1 : Hid (Calls Tryd.prog 48 #[.slice (some ⟨w1.heap.size, 0, none⟩) 3 3] (w1.alloc (.cells #[.slice (some ⟨w.heap.size, 0, none⟩) 1 1, .slice a1 q.length c1, .slice ad n c] 22)) (NewB (w1.alloc (.cells #[.slice (some ⟨w.heap.size, 0, none⟩) 1 1, .slice a1 q.length c1, .slice ad n c] 22)) p)) := CC.out a1 _ c1 w1 B1.out (R0.out.later b1) rr
  clear r1 b1 CC rr
  go_wp2_with fail
  refine C1.out.mono ?_
  rintro e w2 ⟨v2, rfl, r2, b2⟩
  have B2 : Hid (Below w.heap.size w w2) := below_trans (below_trans B1.out (below_alloc _ _)) b2
  have R2 : Hid (RdB w2 v2 p) := r2.rd
  clear r2 b2
  go_wp2_with fail
  refine (EN.out _ _ R2.out (TT.out _ B2.out)).mono ?_
  rintro e w3 ⟨a3, c3, rfl, r3, b3⟩
  have B3 : Hid (Below w.heap.size w w3) := below_trans B2.out b3
  have R3 : Hid (RowB 5 w.heap.size w3 (.slice a3 f.length c3) f) := RowV.mono r3 B2.out.size
  clear r3 b3
  go_wp2_with fail
  go_ret2
  exact ⟨_, _, rfl, R3.out, B3.out⟩
end Go.Proofs.YtcmfehabcklbpaaDoor
