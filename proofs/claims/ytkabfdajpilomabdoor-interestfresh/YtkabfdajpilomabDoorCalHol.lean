/-
  Ours: contracts of the look through the holidays: slices.Contains, calendar.Business; the statements' and the document's own.
-/
import Derived.Test.YtkabfdajpilomabDoorCalRef2
namespace Go.Proofs.YtkabfdajpilomabDoor
open Go.RowKit CalM

/-- A slice whose first cells hold the numbers xs. -/
def SlOk (w : World) (a : Option Addr) (xs : List Int) : Prop :=
  xs.length ≤ 9223372036854775807 ∧ (xs = [] ∨ ∃ b off : Nat, a = some ⟨b, off, none⟩ ∧ ∀ i, i < xs.length → w.cell? ⟨b, off + i, none⟩ = some (.int .i64 (xs.getD i 0)))
theorem SlOk.up {w w' : World} {a : Option Addr} {xs : List Int} (h : SlOk w a xs) (u : Up w w') : SlOk w' a xs := by
  obtain ⟨h1, h2⟩ := h
  refine ⟨h1, ?_⟩
  rcases h2 with h2 | ⟨b, off, h2, h3⟩
  · exact .inl h2
  · exact .inr ⟨b, off, h2, fun i hi => u.cell (h3 i hi)⟩
theorem slOk_nil (w : World) : SlOk w none [] := ⟨by simp, .inl rfl⟩

theorem getD_mem {xs : List Int} {i : Nat} (h : i < xs.length) : xs.getD i 0 ∈ xs := by
  rw [List.getD_eq_getElem?_getD, List.getElem?_eq_getElem h]; exact List.getElem_mem h
theorem not_mem_of {xs : List Int} {d : Int} (h : ∀ i, i < xs.length → xs.getD i 0 ≠ d) : d ∉ xs := by
  intro g
  obtain ⟨i, hi, e⟩ := List.mem_iff_getElem.1 g
  have := h i hi
  rw [List.getD_eq_getElem?_getD, List.getElem?_eq_getElem hi] at this
  exact this e

/-- What such a slice tells while its cells are looked through. -/
theorem SlOk.at {w : World} {a : Option Addr} {xs : List Int} (h : SlOk w a xs) {k : Nat} (hk : k < xs.length) : ∃ b off : Nat, a = some ⟨b, off, none⟩ ∧ w.cell? ⟨b, off + k, none⟩ = some (.int .i64 (xs.getD k 0)) := by
  rcases h.2 with g | ⟨b, off, g, hc⟩
  · rw [g] at hk; simp at hk
  · exact ⟨b, off, g, hc k hk⟩

set_option maxHeartbeats 1000000 in
theorem index_at (a : Option Addr) (cap : Nat) (xs : List Int) (d : Int) (w : World) (h : SlOk w a xs) :
    Calls Tryd.prog 60 #[.slice a xs.length cap, .int .i64 d] w fun e w' => (∃ n : Int, e = .returned (.int .i64 n) ∧ Hid (0 ≤ n ↔ d ∈ xs)) ∧ w' = w := by
  obtain ⟨L, hL⟩ : ∃ L, xs.length = L := ⟨_, rfl⟩
  have h1 := h.1
  have HC : Hid (SlOk w a xs) := h
  have HL : Hid (xs.length = L) := hL
  rw [hL] at h1
  rw [hL]
  clear h hL
  go_enter Tryd.func60, Tryd.ntmps60
  go_wp2_with fail
  go_loopw [8] (fun kk w' => w' = w ∧ ∃ k : Nat, k ≤ L ∧ kk = .int .i64 (k : Int) ∧ Hid (∀ i, i < k → xs.getD i 0 ≠ d)) (fun kk _ => L - (intOf kk).toNat)
  case atStart => exact ⟨rfl, 0, by omega, rfl, fun i hi => by omega⟩
  case round =>
    obtain ⟨rfl, k, hk, rfl, hne⟩ := hrel
    by_cases hlt : (k : Int) < (L : Int)
    · obtain ⟨b, off, rfl, cx⟩ := HC.out.at (k := k) (by rw [HL.out]; omega)
      by_cases he : d = xs.getD k 0
      · have MEM : Hid (d ∈ xs) := by rw [he]; exact getD_mem (by rw [HL.out]; omega)
        rw [← he] at cx
        go_wp2_with fail
        go_ret
        exact ⟨⟨_, rfl, ⟨fun _ => MEM.out, fun _ => by omega⟩⟩, rfl⟩
      · have HE : Hid (xs.getD k 0 ≠ d) := fun g => he g.symm
        have NE : Hid (∀ i, i < k + 1 → xs.getD i 0 ≠ d) := fun i hi => by
          rcases Nat.lt_or_ge i k with g | g
          · exact hne.out i g
          · obtain rfl : i = k := by omega
            exact HE.out
        generalize xs.getD k 0 = x at *
        have hb : (d == x) = false := by rw [beq_eq_false_iff_ne]; exact he
        go_wp2_with fail
        go_roundw
        case rel =>
          exact ⟨trivial, k + 1, by omega, by go_num, NE.out⟩
        case measure => simp [intOf]; omega
    · obtain rfl : k = L := by omega
      go_wp2_with fail
      go_ret
      exact ⟨⟨_, rfl, ⟨fun g => by omega, fun g => absurd g (not_mem_of (fun i hi => hne.out i (by rw [← HL.out]; exact hi)))⟩⟩, rfl⟩
end Go.Proofs.YtkabfdajpilomabDoor
