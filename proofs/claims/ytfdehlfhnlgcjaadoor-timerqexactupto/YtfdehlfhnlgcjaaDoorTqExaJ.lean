/-
  Ours: TqExa, joined.
-/
import Derived.Test.YtfdehlfhnlgcjaaDoorTqPpsJ
namespace Go.Proofs.YtfdehlfhnlgcjaaDoor
open Go.RowKit TqM

/-- The script so far, in memory of the call's own. -/
structure ExS (w : World) (v : Value) (ys : List OpT) (wr : World) : Prop where
  b : Below w.heap.size w wr
  row : RowO w.heap.size wr v ys
theorem ExS.below {w w1 w2 : World} {v : Value} {ys : List OpT} (h : ExS w v ys w1) (b : Below w1.heap.size w1 w2) : ExS w v ys w2 := ⟨below_trans h.b b, h.row.later b⟩
theorem ExS.push {w w1 w2 : World} {v v' : Value} {ys zs : List OpT} (h : ExS w v ys w1) (r : RowO w.heap.size w2 v' zs) (g : w1.grownBy w2 v.ownBlock) : ExS w v' zs w2 := ⟨h.b.grown g h.b.size (fun _ e => h.row.ge e), r⟩
theorem ExS.one {w w1 : World} {v : Value} {ys : List OpT} (h : ExS w v ys w1) (o : OpT) : ExS w v ys (w1.alloc (.cells (opT o).toArray 26)) ∧ RdO (w1.alloc (.cells (opT o).toArray 26)) (.slice (some ⟨w1.heap.size, 0, none⟩) 1 1) [o] ∧ w.heap.size ≤ (w1.alloc (.cells (opT o).toArray 26)).heap.size := ⟨h.below (below_alloc _ _), RdO.one w1 o, (below_trans h.b (below_alloc _ _)).size⟩
theorem ExS.two {w w1 : World} {v : Value} {ys : List OpT} (h : ExS w v ys w1) (o p : OpT) : ExS w v ys (w1.alloc (.cells (opT o ++ opT p).toArray 26)) ∧ RdO (w1.alloc (.cells (opT o ++ opT p).toArray 26)) (.slice (some ⟨w1.heap.size, 0, none⟩) 2 2) [o, p] ∧ w.heap.size ≤ (w1.alloc (.cells (opT o ++ opT p).toArray 26)).heap.size := ⟨h.below (below_alloc _ _), RdO.two w1 o p, (below_trans h.b (below_alloc _ _)).size⟩

set_option maxRecDepth 20000 in
set_option maxHeartbeats 4000000 in
theorem exact_any (os : List OpT) (vs : Value) (w : World) (oko : ∀ o ∈ os, LedM.i64 o.n) (hns : os.length ≤ 1048576) (h : RdO w vs os) (ht : TabP w) :
    Calls Tryd.prog 6 #[vs] w fun e w' => e = .returned (.bool true) ∧ Below w.heap.size w w' := by
  obtain ⟨ao, cap, rfl, hrest⟩ := id h
  clear hrest
  have OKO : Hid (∀ o ∈ os, LedM.i64 o.n) := oko
  have RS : Hid (∀ w', Below w.heap.size w w' → RdO w' (.slice ao os.length cap) os) := fun w' b => h.later b
  have U : Hid (∀ w' v ys, Below w.heap.size w w' → ys.length ≤ 100000000 → (∀ o ∈ ys, LedM.i64 o.n) → RdO w' v ys → Calls Tryd.prog 7 #[v, .int .i64 1, .int .i64 7] w' fun e w2 => e = .returned (.bool true) ∧ Below w'.heap.size w' w2) := fun w' v ys b hl ok r => upTo_at ys v 1 7 w' hl ok r (ht.below ht.lt b)
  obtain ⟨n, hn⟩ : ∃ n, os.length = n := ⟨_, rfl⟩
  have HN : Hid (os.length = n) := hn
  rw [hn] at RS hns ⊢
  clear h ht oko hn
  have A1 : Hid (ExS w (.slice none 0 0) [] (w.alloc (.cells #[.int .i64 1, .bool true, .int .i64 3, .int .i64 2, .int .i64 1, .int .i64 7] 26)) ∧ RdO (w.alloc (.cells #[.int .i64 1, .bool true, .int .i64 3, .int .i64 2, .int .i64 1, .int .i64 7] 26)) (.slice (some ⟨w.heap.size, 0, none⟩) 1 1) [(⟨1, true, ⟨3, 2, 1⟩, 7⟩ : OpT)] ∧ w.heap.size ≤ (w.alloc (.cells #[.int .i64 1, .bool true, .int .i64 3, .int .i64 2, .int .i64 1, .int .i64 7] 26)).heap.size) := ExS.one ⟨Below.refl _ _, World.ownsRow_nil _ _ _ _⟩ (⟨1, true, ⟨3, 2, 1⟩, 7⟩ : OpT)
  have L1 : (([] : List OpT).length + [(⟨1, true, ⟨3, 2, 1⟩, 7⟩ : OpT)].length : Nat) ≤ 1000000000000 := by simp
  have L2 : [(⟨1, true, ⟨3, 2, 1⟩, 7⟩ : OpT)].length + os.length ≤ 1000000000000 := by rw [HN.out]; simp; omega
  have L3 : ([(⟨1, true, ⟨3, 2, 1⟩, 7⟩ : OpT)] ++ os).length + [(⟨7, false, ⟨0, 0, 0⟩, 0⟩ : OpT), (⟨7, true, ⟨0, 0, 0⟩, 0⟩ : OpT)].length ≤ 1000000000000 := by simp [HN.out]; omega
  go_enter Tryd.func6, Tryd.ntmps6
  go_upto_region 3 with (at_builtin; refine wpList_catO rfl _ _ rfl w.heap.size (.slice none 0 0) (.slice (some ⟨w.heap.size, 0, none⟩) 1 1) [] [(⟨1, true, ⟨3, 2, 1⟩, 7⟩ : OpT)] rfl A1.out.1.row A1.out.2.2 rfl A1.out.2.1 L1 ?_; intro v1 w1 r1 g1)
  have S1 : Hid (ExS w v1 [(⟨1, true, ⟨3, 2, 1⟩, 7⟩ : OpT)] w1) := A1.out.1.push r1 g1
  have X1 : Hid (w.heap.size ≤ w1.heap.size ∧ RdO w1 (.slice ao n cap) os) := ⟨S1.out.b.size, RS.out _ S1.out.b⟩
  clear r1 g1 A1 L1
  go_upto_region 4 with (at_builtin; refine wpList_catO rfl _ _ rfl w.heap.size v1 (.slice ao n cap) [(⟨1, true, ⟨3, 2, 1⟩, 7⟩ : OpT)] os rfl S1.out.row X1.out.1 rfl X1.out.2 L2 ?_; intro v2 w2 r2 g2)
  have S2 : Hid (ExS w v2 ([(⟨1, true, ⟨3, 2, 1⟩, 7⟩ : OpT)] ++ os) w2) := S1.out.push r2 g2
  clear r2 g2 X1 S1 RS L2
  have A2 : Hid (ExS w v2 ([(⟨1, true, ⟨3, 2, 1⟩, 7⟩ : OpT)] ++ os) (w2.alloc (.cells #[.int .i64 7, .bool false, .int .i64 0, .int .i64 0, .int .i64 0, .int .i64 0, .int .i64 7, .bool true, .int .i64 0, .int .i64 0, .int .i64 0, .int .i64 0] 26)) ∧ RdO (w2.alloc (.cells #[.int .i64 7, .bool false, .int .i64 0, .int .i64 0, .int .i64 0, .int .i64 0, .int .i64 7, .bool true, .int .i64 0, .int .i64 0, .int .i64 0, .int .i64 0] 26)) (.slice (some ⟨w2.heap.size, 0, none⟩) 2 2) [(⟨7, false, ⟨0, 0, 0⟩, 0⟩ : OpT), (⟨7, true, ⟨0, 0, 0⟩, 0⟩ : OpT)] ∧ w.heap.size ≤ (w2.alloc (.cells #[.int .i64 7, .bool false, .int .i64 0, .int .i64 0, .int .i64 0, .int .i64 0, .int .i64 7, .bool true, .int .i64 0, .int .i64 0, .int .i64 0, .int .i64 0] 26)).heap.size) := S2.out.two (⟨7, false, ⟨0, 0, 0⟩, 0⟩ : OpT) (⟨7, true, ⟨0, 0, 0⟩, 0⟩ : OpT)
  go_upto_region 5 with (at_builtin; refine wpList_catO rfl _ _ rfl w.heap.size v2 (.slice (some ⟨w2.heap.size, 0, none⟩) 2 2) ([(⟨1, true, ⟨3, 2, 1⟩, 7⟩ : OpT)] ++ os) [(⟨7, false, ⟨0, 0, 0⟩, 0⟩ : OpT), (⟨7, true, ⟨0, 0, 0⟩, 0⟩ : OpT)] rfl A2.out.1.row A2.out.2.2 rfl A2.out.2.1 L3 ?_; intro v3 w3 r3 g3)
  have S3 : Hid (ExS w v3 ([(⟨1, true, ⟨3, 2, 1⟩, 7⟩ : OpT)] ++ os ++ [(⟨7, false, ⟨0, 0, 0⟩, 0⟩ : OpT), (⟨7, true, ⟨0, 0, 0⟩, 0⟩ : OpT)]) w3) := A2.out.1.push r3 g3
  clear r3 g3 A2 S2 L3
  go_wp2_with fail
  go_loopw [3, 4] (fun va vi wr => ∃ (i : Nat) (ys : List OpT), vi = .int .i64 (i : Int) ∧ i ≤ n + 2 ∧ Hid (ys.length = n + 3 + 2 * i ∧ (∀ o ∈ ys, LedM.i64 o.n) ∧ ExS w va ys wr)) (fun _ vi _ => n + 2 - (intOf vi).toNat)
  case atStart => exact ⟨0, _, rfl, by omega, by simp [HN.out], fun o ho => by
    simp at ho
    rcases ho with rfl | ho | rfl | rfl
    · exact ⟨by decide, by decide⟩
    · exact OKO.out o ho
    · exact ⟨by decide, by decide⟩
    · exact ⟨by decide, by decide⟩, S3.out⟩
  case round =>
    obtain ⟨i, ys, rfl, hi, S⟩ := hrel
    by_cases hlt : (i : Int) ≤ (n : Int) + 1
    · have A3 : Hid (ExS w u3 ys (wr.alloc (.cells #[.int .i64 6, .bool false, .int .i64 0, .int .i64 0, .int .i64 0, .int .i64 9223372036854775807, .int .i64 6, .bool true, .int .i64 0, .int .i64 0, .int .i64 0, .int .i64 9223372036854775807] 26)) ∧ RdO (wr.alloc (.cells #[.int .i64 6, .bool false, .int .i64 0, .int .i64 0, .int .i64 0, .int .i64 9223372036854775807, .int .i64 6, .bool true, .int .i64 0, .int .i64 0, .int .i64 0, .int .i64 9223372036854775807] 26)) (.slice (some ⟨wr.heap.size, 0, none⟩) 2 2) [(⟨6, false, ⟨0, 0, 0⟩, 9223372036854775807⟩ : OpT), (⟨6, true, ⟨0, 0, 0⟩, 9223372036854775807⟩ : OpT)] ∧ w.heap.size ≤ (wr.alloc (.cells #[.int .i64 6, .bool false, .int .i64 0, .int .i64 0, .int .i64 0, .int .i64 9223372036854775807, .int .i64 6, .bool true, .int .i64 0, .int .i64 0, .int .i64 0, .int .i64 9223372036854775807] 26)).heap.size) := S.out.2.2.two (⟨6, false, ⟨0, 0, 0⟩, 9223372036854775807⟩ : OpT) (⟨6, true, ⟨0, 0, 0⟩, 9223372036854775807⟩ : OpT)
      have L4 : ys.length + [(⟨6, false, ⟨0, 0, 0⟩, 9223372036854775807⟩ : OpT), (⟨6, true, ⟨0, 0, 0⟩, 9223372036854775807⟩ : OpT)].length ≤ 1000000000000 := by rw [S.out.1]; simp; omega
      go_upto_region 7 with (at_builtin; refine wpList_catO rfl _ _ rfl w.heap.size u3 (.slice (some ⟨wr.heap.size, 0, none⟩) 2 2) ys [(⟨6, false, ⟨0, 0, 0⟩, 9223372036854775807⟩ : OpT), (⟨6, true, ⟨0, 0, 0⟩, 9223372036854775807⟩ : OpT)] rfl A3.out.1.row A3.out.2.2 rfl A3.out.2.1 L4 ?_; intro v5 w5 r5 g5)
      have S5 : Hid ((ys ++ [(⟨6, false, ⟨0, 0, 0⟩, 9223372036854775807⟩ : OpT), (⟨6, true, ⟨0, 0, 0⟩, 9223372036854775807⟩ : OpT)]).length = n + 3 + 2 * (i + 1) ∧ (∀ o ∈ ys ++ [(⟨6, false, ⟨0, 0, 0⟩, 9223372036854775807⟩ : OpT), (⟨6, true, ⟨0, 0, 0⟩, 9223372036854775807⟩ : OpT)], LedM.i64 o.n) ∧ ExS w v5 (ys ++ [(⟨6, false, ⟨0, 0, 0⟩, 9223372036854775807⟩ : OpT), (⟨6, true, ⟨0, 0, 0⟩, 9223372036854775807⟩ : OpT)]) w5) := ⟨by rw [List.length_append, S.out.1]; simp; omega, fun o ho => by
        rcases List.mem_append.1 ho with ho | ho
        · exact S.out.2.1 o ho
        · simp at ho
          rcases ho with rfl | rfl <;> exact ⟨by decide, by decide⟩, A3.out.1.push r5 g5⟩
      clear r5 g5 A3 L4 S
      go_wp2_with fail
      go_roundw
      case rel => exact ⟨i + 1, _, by go_num, by omega, S5.out⟩
      case measure => simp [intOf]; omega
    · go_wp2_with fail
      refine (U.out _ _ ys S.out.2.2.b (by rw [S.out.1]; omega) S.out.2.1 S.out.2.2.row.rd).mono ?_
      rintro e w6 ⟨rfl, b6⟩
      have B6 : Hid (Below w.heap.size w w6) := below_trans S.out.2.2.b b6
      clear b6 U S
      go_wp2_with fail
      go_ret
      exact ⟨rfl, B6.out⟩
end Go.Proofs.YtfdehlfhnlgcjaaDoor
