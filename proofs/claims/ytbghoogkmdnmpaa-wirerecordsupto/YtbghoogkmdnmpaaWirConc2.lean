/-
  Ours: slices.Concat of two rows of bytes.
-/
import Derived.Test.YtbghoogkmdnmpaaWirConc
namespace Go.Proofs.Ytbghoogkmdnmpaa
open Go.RowKit

set_option maxRecDepth 20000 in
set_option maxHeartbeats 1000000 in
theorem concat2_at (a b : List Nat) (va vb : Value) (G : Nat) (w : World) (c0' : w.cell? ⟨G, 0, none⟩ = some va) (c1' : w.cell? ⟨G, 1, none⟩ = some vb) (lt : G < w.heap.size) (ra : RdB w va a) (rb : RdB w vb b) (hl : a.length + b.length ≤ 1000000000000) :
    Calls Try.prog 38 #[.slice (some ⟨G, 0, none⟩) 2 2] w (NewB w (a ++ b)) := by
  obtain ⟨i0, hi, hz0, hz1, hz2⟩ := info_parts infoB
  obtain ⟨oa, pa, ea, -, -⟩ := ra.len
  obtain ⟨ob, pb, eb, -, -⟩ := rb.len
  obtain ⟨A, hA⟩ : ∃ A, a.length = A := ⟨_, rfl⟩
  obtain ⟨B, hB⟩ : ∃ B, b.length = B := ⟨_, rfl⟩
  rw [List.length_map, hA] at ea
  rw [List.length_map, hB] at eb
  subst ea eb
  have hl' : A + B ≤ 1000000000000 := by omega
  have c0 : Hid (w.cell? ⟨G, 0, none⟩ = some (.slice oa A pa)) := c0'
  have c1 : Hid (w.cell? ⟨G, 1, none⟩ = some (.slice ob B pb)) := c1'
  have RA : Hid (RdB w (.slice oa A pa) a) := ra
  have RB : Hid (RdB w (.slice ob B pb) b) := rb
  have LA : Hid (([] : List Nat).length + a.length ≤ 1000000000000) := by show _ ≤ _; simp; omega
  have LB : Hid (a.length + b.length ≤ 1000000000000) := hl
  have GR : Hid (Calls Try.prog 74 #[.slice none 0 0, .int .i64 ((A + B : Nat) : Int)] w fun e w' => ∃ v, e = .returned v ∧ RowB 5 w.heap.size w' v [] ∧ Below w.heap.size w w') := grow_at (A + B) hl' w
  clear ra rb hl hA hB
  go_enter Try.func38, Try.ntmps38
  go_wp2_with fail
  go_loopw [3, 11] (fun vs vk wr => w = wr ∧ ∃ k : Nat, vk = .int .i64 (k : Int) ∧ ((k = 0 ∧ vs = .int .i64 0) ∨ (k = 1 ∧ vs = .int .i64 (A : Int)) ∨ (k = 2 ∧ vs = .int .i64 ((A + B : Nat) : Int)))) (fun _ vk _ => 2 - (intOf vk).toNat)
  case atStart => exact ⟨rfl, 0, rfl, .inl ⟨rfl, rfl⟩⟩
  case round =>
    obtain ⟨rfl, k, rfl, ⟨rfl, rfl⟩ | ⟨rfl, rfl⟩ | ⟨rfl, rfl⟩⟩ := hrel
    · have d0 : decide ((A : Int) < 0) = false := decide_eq_false (by omega)
      go_wp2_with fail
      go_roundw
      case rel => exact ⟨trivial, 1, rfl, .inr (.inl ⟨rfl, rfl⟩)⟩
      case measure => simp [intOf]
    · have d0 : decide ((A : Int) + (B : Int) < 0) = false := decide_eq_false (by omega)
      go_wp2_with fail
      go_roundw
      case rel => exact ⟨trivial, 2, rfl, .inr (.inr ⟨rfl, by go_num⟩)⟩
      case measure => simp [intOf]
    · go_wp2_with fail
      refine GR.out.mono ?_
      rintro e w1 ⟨v1, rfl, r1, b1⟩
      go_wp2_with fail
      go_loopw [6, 27] (fun v vk w' => ∃ k : Nat, vk = .int .i64 (k : Int) ∧ ((k = 0 ∧ RowB 5 w.heap.size w' v []) ∨ (k = 1 ∧ RowB 5 w.heap.size w' v a) ∨ (k = 2 ∧ RowB 5 w.heap.size w' v (a ++ b))) ∧ Below w.heap.size w w') (fun _ vk _ => 2 - (intOf vk).toNat)
      case atStart => exact ⟨0, rfl, .inl ⟨rfl, r1⟩, b1⟩
      case round =>
        obtain ⟨k, rfl, ⟨rfl, hown⟩ | ⟨rfl, hown⟩ | ⟨rfl, hown⟩, hnx⟩ := hrel
        · have cG := (hnx.cell (p := ⟨G, 0, none⟩) lt).trans c0.out
          have rd2 := Rd.later RA.out hnx
          have sz2 := hnx.size
          have l12 := len_max LA.out
          have one := one_bv a
          clear c0' c1'
          go_wp2_with (at_builtin; refine wpList_catV rfl (.tmp 31) (.tmp 32) 27 rfl 5 i0 (.int .u8 0) 1 underB hi hz0 hz1 hz2 rfl w.heap.size _ _ _ _ one rfl hown sz2 rfl rd2 l12.1 l12.2 ?_; intro v' w3 hown' hgr)
          have hb : Below w.heap.size w w3 := below_grown hnx hown (Nat.le_refl _) sz2 hgr
          have row3 : RowB 5 w.heap.size w3 v' ([] ++ a) := cat_row hown'
          go_roundw
          case rel => exact ⟨1, by first | rfl | go_num, .inr (.inl ⟨rfl, row3⟩), hb⟩
          case measure => simp [intOf]
        · have cG := (hnx.cell (p := ⟨G, 1, none⟩) lt).trans c1.out
          have rd2 := Rd.later RB.out hnx
          have sz2 := hnx.size
          have l12 := len_max LB.out
          have one := one_bv b
          clear c0' c1'
          go_wp2_with (at_builtin; refine wpList_catV rfl (.tmp 31) (.tmp 32) 27 rfl 5 i0 (.int .u8 0) 1 underB hi hz0 hz1 hz2 rfl w.heap.size _ _ _ _ one rfl hown sz2 rfl rd2 l12.1 l12.2 ?_; intro v' w3 hown' hgr)
          have hb : Below w.heap.size w w3 := below_grown hnx hown (Nat.le_refl _) sz2 hgr
          have row3 : RowB 5 w.heap.size w3 v' (a ++ b) := cat_row hown'
          go_roundw
          case rel => exact ⟨2, by first | rfl | go_num, .inr (.inr ⟨rfl, row3⟩), hb⟩
          case measure => simp [intOf]
        · go_wp2_with fail
          go_ret
          exact ⟨_, rfl, hown, hnx⟩
end Go.Proofs.Ytbghoogkmdnmpaa
