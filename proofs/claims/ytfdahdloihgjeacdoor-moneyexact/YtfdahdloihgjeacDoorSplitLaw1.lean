/-
  Ours: money.Split at any list that reads: refused, or the parts.
-/
import Derived.Test.YtfdahdloihgjeacDoorSplitGo2
import Derived.Test.YtfdahdloihgjeacDoorSharesMath
namespace Go.Proofs.YtfdahdloihgjeacDoor
open Go.RowKit Stable Spl

/-- What money.Split has answered. -/
def SplitAns (T : Int) (ws : List Int) (w : World) (e : Ending) (w' : World) : Prop :=
  (e = .returned (.tuple #[.slice none 0 0, .bool false]) ∧ w' = w ∧ ¬ (0 ≤ T ∧ adOk ws = true)) ∨
  (∃ gp f, e = .returned (.tuple #[.slice (some ⟨gp, 0, none⟩) ws.length ws.length, .bool true]) ∧ w.heap.size ≤ gp ∧ Below w.heap.size w w' ∧
    Sh T (total ws) (fun i => ws.getD i 0) ws.length f ∧ IC gp ws.length w' (prt T (total ws) (fun i => ws.getD i 0) ws.length f) ∧ 0 < ws.length ∧ ws.length ≤ 1000 ∧ 0 ≤ T ∧ adOk ws = true)

theorem split_ans {T : Int} {w : World} {v : Value} {ws : List Int} (h : Reads w v ws) (hx : I64 ws) (hl : ws.length ≤ 1048576) (T0 : -9223372036854775808 ≤ T) (T1 : T ≤ 9223372036854775807) :
    Calls Tryd.prog 15 #[.int .i64 T, v] w (SplitAns T ws w) := by
  have _t := T0
  rcases h with ⟨rfl, a, cap, rfl⟩ | ⟨h0, g, o, cap, rfl, _, hg, cell⟩
  · have no : adOk [] = false := by decide
    exact (split_no T 0 false (Or.inr rfl) (addW_empty a cap w)).mono fun e w' ⟨he, hw⟩ => Or.inl ⟨he, hw, fun h => by rw [no] at h; cases h.2⟩
  · have A := fun w' (h : w' = w) => addW_full ws g o cap w' hx hl h0 (fun i hi => by rw [h]; exact cell i hi)
    by_cases ok : 0 ≤ T ∧ adOk ws = true
    · have ad := ok.2
      have g2 := of_decide_eq_true (show decide _ = true from ad)
      obtain ⟨l, p, s, z⟩ := g2
      have av : adV ws = total ws := by unfold adV; rw [ad, if_pos rfl]
      rw [ad, av] at A
      have sm := of_decide_eq_true (show decide _ = true from s)
      have tn : 0 ≤ total ws := by
        have h := sumTo_total ws ws.length (Nat.le_refl _)
        rw [List.take_of_length_le (Nat.le_refl _)] at h
        rw [← h]; exact sumTo_nonneg _ p
      refine (split_yes T (total ws) ws g o cap w hx h0 l hg ok.1 T1 cell p rfl (by omega) sm.2 A).mono fun e w' ⟨gp, he, hgp, hb, f, sh, so, ic⟩ => Or.inr ⟨gp, f, he, hgp, hb, ⟨ok.1, by omega, p, ?_, sh, so⟩, ic, h0, l, ok.1, ad⟩
      have h := sumTo_total ws ws.length (Nat.le_refl _)
      rw [List.take_of_length_le (Nat.le_refl _)] at h
      exact h
    · have hb : T < 0 ∨ adOk ws = false := by
        by_cases t : T < 0
        · exact Or.inl t
        · right
          cases hk : adOk ws
          · rfl
          · exact absurd ⟨by omega, hk⟩ ok
      exact (split_no T (adV ws) (adOk ws) hb (A w rfl)).mono fun e w' ⟨he, hw⟩ => Or.inl ⟨he, hw, ok⟩


end Go.Proofs.YtfdahdloihgjeacDoor
