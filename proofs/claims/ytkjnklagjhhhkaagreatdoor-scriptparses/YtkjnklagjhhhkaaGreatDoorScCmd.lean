/-
  Ours: the tables of the commands and of the plans, where they lie; small functions of script: tellWhole, planWord.
-/
import Derived.Test.YtkjnklagjhhhkaaGreatDoorScF
import Derived.Test.YtkjnklagjhhhkaaGreatDoorMrtGo
import Derived.Test.YtkjnklagjhhhkaaGreatDoorWirOwn
namespace Go.Proofs.YtkjnklagjhhhkaaGreatDoor
open Go.RowKit Go.Lib ScF

structure CmdW (w : World) : Prop where
  wd : ∀ k, k < 22 → w.cell? ⟨0, k * 2, none⟩ = some (.string ⟨(wordN k).toArray⟩)
  sl : ∀ k, k < 22 → ∃ a c, w.cell? ⟨0, k * 2 + 1, none⟩ = some (.slice a (slotN k).length c) ∧ (slotN k).length ≤ c ∧ ∀ i, i < (slotN k).length → ∃ g o, a = some ⟨g, o, none⟩ ∧ g < w.heap.size ∧ w.cell? ⟨g, o + i, none⟩ = some (.int .i64 (((slotN k).getD i 0 : Nat) : Int))
theorem CmdW.lt {w : World} (h : CmdW w) : 0 < w.heap.size := World.block_lt_of_cell? w _ (h.wd 0 (by decide))
theorem CmdW.later {w w' : World} (h : CmdW w) (b : Below w.heap.size w w') : CmdW w' := by
  refine ⟨fun k hk => (b.cell (p := ⟨0, k * 2, none⟩) h.lt).trans (h.wd k hk), fun k hk => ?_⟩
  obtain ⟨a, c, h1, h2, h3⟩ := h.sl k hk
  refine ⟨a, c, (b.cell (p := ⟨0, k * 2 + 1, none⟩) h.lt).trans h1, h2, fun i hi => ?_⟩
  obtain ⟨g, o, e, lt, hc⟩ := h3 i hi
  exact ⟨g, o, e, Nat.lt_of_lt_of_le lt b.size, (b.cell (p := ⟨g, o + i, none⟩) lt).trans hc⟩
def planN (n : Nat) : List UInt8 := ([wLevel, wEqual, wBalloon] : List (List UInt8)).getD n []
def PlnW (w : World) : Prop := ∀ n, n < 3 → w.cell? ⟨2, n, none⟩ = some (.string ⟨(planN n).toArray⟩)
theorem PlnW.lt {w : World} (h : PlnW w) : 2 < w.heap.size := World.block_lt_of_cell? w _ (h 0 (by decide))
theorem PlnW.later {w w' : World} (h : PlnW w) (b : Below w.heap.size w w') : PlnW w' := fun n hn => (b.cell (p := ⟨2, n, none⟩) h.lt).trans (h n hn)
theorem planW_is (n : Nat) (h : n < 3) : planW (n : Int) = some (planN n) := by
  match n, h with
  | 0, _ => rfl
  | 1, _ => rfl
  | 2, _ => rfl
theorem planW_no (n : Int) (h : n < 0 ∨ 3 ≤ n) : planW n = none := by
  unfold planW
  rw [if_neg (by omega), if_neg (by omega), if_neg (by omega)]

abbrev opC (o : Cm) : Array Value := #[.int .i64 o.kind, .int .i64 o.loan, .int .i64 o.amount, .int .i64 o.rate, .int .i64 o.count, .int .i64 o.days, .string ⟨o.text.toArray⟩]
abbrev opV (o : Cm) : Value := .agg (opC o)

/-- What tells a field: the text, or that there is none. -/
def TellAns (r : Option (List UInt8)) (e : Ending) : Prop := match r with
  | some l => e = .returned (.tuple #[.string ⟨l.toArray⟩, .bool true])
  | none => ∃ t : ByteArray, e = .returned (.tuple #[.string t, .bool false])

theorem fmtInt_at (n : Int) (h : i64 n) (w : World) (ht : TabW w) : Calls Tryz.prog 52 #[.int .i64 n, .int .i64 10] w fun e w' => e = .returned (.string ⟨(itoa n).toArray⟩) ∧ Below w.heap.size w w' := by
  refine (Tryz.strconv_FormatInt_10 n h.1 h.2 w ht).mono ?_
  rintro e w' ⟨rfl, k, os, rfl⟩
  exact ⟨rfl, Lib.below_grow _ w (Nat.le_refl _) k os⟩

set_option maxRecDepth 40000 in
set_option maxHeartbeats 1000000 in
theorem tellWhole_at (n : Int) (h : i64 n) (w : World) (ht : TabW w) : Calls Tryz.prog 37 #[.int .i64 n] w fun e w' => TellAns (wholeT n) e ∧ Below w.heap.size w w' := by
  have FI : Hid (Calls Tryz.prog 52 #[.int .i64 n, .int .i64 10] w fun e w' => e = .returned (.string ⟨(itoa n).toArray⟩) ∧ Below w.heap.size w w') := fmtInt_at n h w ht
  clear ht
  by_cases h1 : n < -999999999999999999
  · have E : Hid (wholeT n = none) := if_neg (by omega)
    rw [E.out]
    go_enter Tryz.func37, Tryz.ntmps37
    go_wp2_with fail
    go_ret2
    exact ⟨⟨_, rfl⟩, Below.refl _ _⟩
  · by_cases h2 : 999999999999999999 < n
    · have E : Hid (wholeT n = none) := if_neg (by omega)
      rw [E.out]
      go_enter Tryz.func37, Tryz.ntmps37
      go_wp2_with fail
      go_ret2
      exact ⟨⟨_, rfl⟩, Below.refl _ _⟩
    · have E : Hid (wholeT n = some (itoa n)) := if_pos (by omega)
      rw [E.out]
      go_enter Tryz.func37, Tryz.ntmps37
      go_wp2_with fail
      refine FI.out.mono ?_
      rintro e w1 ⟨rfl, b1⟩
      go_wp2_with fail
      go_ret2
      exact ⟨rfl, b1⟩
set_option maxRecDepth 40000 in
set_option maxHeartbeats 1000000 in
theorem tellWhole64_at (n : Int) (h : i64 n) (w : World) (ht : TabW w) : Calls Tryz.prog 38 #[.int .i64 n] w fun e w' => TellAns (wholeT n) e ∧ Below w.heap.size w w' := by
  have FI : Hid (Calls Tryz.prog 52 #[.int .i64 n, .int .i64 10] w fun e w' => e = .returned (.string ⟨(itoa n).toArray⟩) ∧ Below w.heap.size w w') := fmtInt_at n h w ht
  clear ht
  by_cases h1 : n < -999999999999999999
  · have E : Hid (wholeT n = none) := if_neg (by omega)
    rw [E.out]
    go_enter Tryz.func38, Tryz.ntmps38
    go_wp2_with fail
    go_ret2
    exact ⟨⟨_, rfl⟩, Below.refl _ _⟩
  · by_cases h2 : 999999999999999999 < n
    · have E : Hid (wholeT n = none) := if_neg (by omega)
      rw [E.out]
      go_enter Tryz.func38, Tryz.ntmps38
      go_wp2_with fail
      go_ret2
      exact ⟨⟨_, rfl⟩, Below.refl _ _⟩
    · have E : Hid (wholeT n = some (itoa n)) := if_pos (by omega)
      rw [E.out]
      go_enter Tryz.func38, Tryz.ntmps38
      go_wp2_with fail
      refine FI.out.mono ?_
      rintro e w1 ⟨rfl, b1⟩
      go_wp2_with fail
      go_ret2
      exact ⟨rfl, b1⟩
set_option maxRecDepth 40000 in
set_option maxHeartbeats 1000000 in
theorem planWord_at (n : Int) (w : World) (hp : PlnW w) : Calls Tryz.prog 40 #[.int .i64 n] w fun e w' => TellAns (planW n) e ∧ w' = w := by
  by_cases h1 : n < 0
  · have E : Hid (planW n = none) := planW_no n (.inl h1)
    rw [E.out]
    clear hp
    go_enter Tryz.func40, Tryz.ntmps40
    go_wp2_with fail
    go_ret2
    exact ⟨⟨_, rfl⟩, rfl⟩
  · by_cases h2 : 3 ≤ n
    · have E : Hid (planW n = none) := planW_no n (.inr h2)
      rw [E.out]
      clear hp
      go_enter Tryz.func40, Tryz.ntmps40
      go_wp2_with fail
      go_ret2
      exact ⟨⟨_, rfl⟩, rfl⟩
    · obtain ⟨m, rfl⟩ : ∃ m : Nat, n = (m : Int) := ⟨n.toNat, by omega⟩
      have hc := hp m (by omega)
      have E : Hid (planW (m : Int) = some (planN m)) := planW_is m (by omega)
      have d2 : decide (3 ≤ (m : Int)) = false := decide_eq_false h2
      have h3 : m < 3 := by omega
      rw [E.out]
      generalize planN m = l at *
      clear hp E
      go_enter Tryz.func40, Tryz.ntmps40
      go_wp2_with fail
      go_ret2
      exact ⟨rfl, rfl⟩
end Go.Proofs.YtkjnklagjhhhkaaGreatDoor
