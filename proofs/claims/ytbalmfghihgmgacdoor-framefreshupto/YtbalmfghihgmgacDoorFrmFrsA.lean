/-
  Ours: FrameFresh, whatever the payloads.
-/
import Derived.Test.YtbalmfghihgmgacDoorFrmFrs2
namespace Go.Proofs.YtbalmfghihgmgacDoor
open Go.RowKit

set_option maxRecDepth 100000 in
set_option maxHeartbeats 1000000 in
theorem fresh_any (cs : List (List Nat)) (v : Value) (w : World) (hs : Sml cs) (h : RdR w v cs) (hT : TabS w) :
    Calls Tryd.prog 8 #[v] w fun e w' => e = .returned (.bool true) ∧ Below w.heap.size w w' := by
  by_cases hz : CrcM.sizeL cs ≤ 6000000
  · by_cases h40 : cs.length ≤ 40
    · exact fresh_core cs v w hs h hT hz h40
    · have FIT : Hid (Calls Tryd.prog 17 #[v] w fun e w' => e = .returned (.bool true) ∧ w' = w) := (fits_at cs _ w hs h).mono fun e w' ⟨h1, h2⟩ => ⟨by rw [h1, decide_eq_true hz], h2⟩
      obtain ⟨ao, cap, rfl, hcap⟩ := h.len
      have hc := hs.cnt
      clear h hT hs
      generalize cs.length = L at *
      have d40 : decide ((40 : Int) < (L : Int)) = true := decide_eq_true (by omega)
      go_enter Tryd.func8, Tryd.ntmps8
      go_wp2_with fail
      refine FIT.out.mono ?_
      rintro e w0 ⟨rfl, rfl⟩
      go_wp2_with fail
      go_ret
      exact ⟨rfl, Below.refl _ _⟩
  · have FIT : Hid (Calls Tryd.prog 17 #[v] w fun e w' => e = .returned (.bool false) ∧ w' = w) := (fits_at cs _ w hs h).mono fun e w' ⟨h1, h2⟩ => ⟨by rw [h1, decide_eq_false hz], h2⟩
    obtain ⟨ao, cap, rfl, hcap⟩ := h.len
    clear h hT hs
    generalize cs.length = L at *
    go_enter Tryd.func8, Tryd.ntmps8
    go_wp2_with fail
    refine FIT.out.mono ?_
    rintro e w0 ⟨rfl, rfl⟩
    go_wp2_with fail
    go_ret
    exact ⟨rfl, Below.refl _ _⟩
end Go.Proofs.YtbalmfghihgmgacDoor
