/-
  Ours: the document's Order and Allocate.
-/
import Derived.Test.YtplebplpachgiaaDoorWatPart
namespace Go.Proofs.YtplebplpachgiaaDoor
open Go.RowKit LedM WatM

namespace WatM
def oL (n : Nat) : Nat → List Int
  | 0 => [0, 0, 0]
  | j + 1 => (oL n j).set j (kd n j : Int)
theorem oL_len (n : Nat) : ∀ j, (oL n j).length = 3
  | 0 => rfl
  | j + 1 => by unfold oL; rw [List.length_set]; exact oL_len n j
def ix (m : Nat) : Nat := if m = 3 then 0 else if m = 2 then 1 else 2
def ouL (n : Nat) (f i p a : Int) : Nat → List Int
  | 0 => z5
  | j + 1 => (ouL n f i p a j).set (ix (kd n j)) (pd n f i p a j)
theorem ouL_len (n : Nat) (f i p a : Int) : ∀ j, (ouL n f i p a j).length = 5
  | 0 => rfl
  | j + 1 => by unfold ouL; rw [List.length_set]; exact ouL_len n f i p a j
theorem ouL_end {n : Nat} (f i p a : Int) (hn : n < 6) : (ouL n f i p a 3).set 3 (lf n f i p a 3) = alG n f i p a := by
  have h : n = 0 ∨ n = 1 ∨ n = 2 ∨ n = 3 ∨ n = 4 ∨ n = 5 := by omega
  rcases h with h | h | h | h | h | h <;> subst h <;> rfl
end WatM
theorem bkL_upd (l : List Int) (k : Nat) (x : Int) : (bkL l).set k (.int .i64 x) = bkL (l.set k x) := by unfold bkL; rw [List.map_set]
theorem KB.set {w w1 : World} {bs : List (Nat × TypeId × List Value)} {G : Nat} {T : TypeId} {l : List Int} (h : KB w ((G, T, bkL l) :: bs) w1) (hne : ∀ q ∈ bs, q.1 ≠ G) (k : Nat) (x : Int) : KB w ((G, T, bkL (l.set k x)) :: bs) (w1.setCell ⟨G, k, none⟩ (.int .i64 x)) := by
  have g := setCell_grown w1 G k (.int .i64 x)
  have h0 := h.bk _ (List.mem_cons_self ..)
  refine ⟨h.bb.grown g h.bb.size (fun q e => by cases e; exact h0.1), fun q hq => ?_⟩
  rcases List.mem_cons.1 hq with rfl | hq
  · exact ⟨h0.1, by have := h0.2.set (i := k) (.int .i64 x); rw [bkL_upd] at this; exact this⟩
  · have h1 := h.bk q (List.mem_cons_of_mem _ hq)
    exact ⟨h1.1, h1.2.grown g (by have := hne q hq; simp; omega)⟩

set_option maxRecDepth 20000 in
set_option maxHeartbeats 1600000 in
theorem rorder_at (o : Int) (w : World) : Calls Tryd.prog 11 #[.int .i64 o] w fun e w' => e = .returned (.tuple #[.agg (bkL (ordL o)).toArray, .bool (ordB o)]) ∧ Below w.heap.size w w' := by
  have BE : Hid (∀ a b : Obj, Below w.heap.size w ((w.alloc a).alloc b)) := fun a b => (below_alloc w a).alloc (by simp) b
  by_cases h : 0 ≤ o ∧ o < 6
  · obtain ⟨n, rfl⟩ : ∃ n : Nat, o = (n : Int) := ⟨o.toNat, by omega⟩
    have hn : n < 6 := by omega
    have hn64 : (n : Int) < 6 := by omega
    rw [ordL_in n hn, show ordB (n : Int) = true from decide_eq_true h]
    clear h
    have TU : Hid (∀ (j : Nat), j < 3 → ∀ w', Calls Tryd.prog 13 #[.int .i64 (n : Int), .int .i64 (j : Int)] w' fun e w2 => e = .returned (.int .i64 (kd n j : Int)) ∧ w2 = w') := fun j hj w' => turn_in n j w' hn hj
    have T0 : Hid (∀ w', Calls Tryd.prog 13 #[.int .i64 (n : Int), .int .i64 0] w' fun e w2 => e = .returned (.int .i64 (kd n 0 : Int)) ∧ w2 = w') := fun w' => TU.out 0 (by omega) w'
    have K0 : Hid (KB w [(w.heap.size + 1, 25, bkL (oL n 0)), (w.heap.size, 25, bkL [0, 0, 0])] ((w.alloc z3o).alloc z3o)) := by
      have := ((KB.start w).new 25 (bkL [0, 0, 0])).new 25 (bkL [0, 0, 0])
      rwa [show (w.alloc (.cells (bkL [0, 0, 0]).toArray 25)).heap.size = w.heap.size + 1 from by simp] at this
    have k0 : (0 : Int) ≤ (kd n 0 : Int) := by omega
    go_enter Tryd.func11, Tryd.ntmps11
    go_wp2_with fail
    refine (T0.out _).mono ?_
    rintro e w1 ⟨rfl, rfl⟩
    clear T0
    go_wp2_with fail
    clear k0
    go_loopw [5] (fun vk wr => ∃ j : Nat, vk = .int .i64 (j : Int) ∧ j ≤ 3 ∧ KB w [(w.heap.size + 1, 25, bkL (oL n j)), (w.heap.size, 25, bkL [0, 0, 0])] wr) (fun vk _ => 3 - (intOf vk).toNat)
    case atStart => exact ⟨0, rfl, by omega, K0.out⟩
    case round =>
      clear K0
      obtain ⟨j, rfl, hj, kb⟩ := hrel
      by_cases hlt : (j : Int) < 3
      · have TJ : Hid (∀ w', Calls Tryd.prog 13 #[.int .i64 (n : Int), .int .i64 (j : Int)] w' fun e w2 => e = .returned (.int .i64 (kd n j : Int)) ∧ w2 = w') := TU.out j (by omega)
        have c := (kb.at 0 rfl).cell j _ (bkL_at (by rw [oL_len]; omega))
        have fz := (kb.at 0 rfl).fz j
        have NX : Hid (KB w [(w.heap.size + 1, 25, bkL (oL n (j + 1))), (w.heap.size, 25, bkL [0, 0, 0])] (wr.setCell ⟨w.heap.size + 1, j, none⟩ (.int .i64 (kd n j : Int)))) := kb.set (by simp) j _
        clear kb TU
        generalize (oL n j).getD j 0 = old at *
        go_wp2_with fail
        refine (TJ.out _).mono ?_
        rintro e w1 ⟨rfl, rfl⟩
        clear TJ
        go_wp2_with fail
        go_roundw
        case rel => exact ⟨j + 1, by go_num, by omega, NX.out⟩
        case measure => simp [intOf]; omega
      · obtain rfl : j = 3 := by omega
        have KB3 : Hid (KB w [(w.heap.size + 1, 25, bkL [(kd n 0 : Int), (kd n 1 : Int), (kd n 2 : Int)]), (w.heap.size, 25, bkL [0, 0, 0])] wr) := kb
        clear kb TU
        go_wp2_with (first
          | (refine step_load rfl 25 _ rfl (w.heap.size + 1) 0 rfl (bkL [(kd n 0 : Int), (kd n 1 : Int), (kd n 2 : Int)]) _ (KB3.out.at 0 rfl).all Tryd.underlying25 rfl infoT ?_)
          | (refine step_store rfl 25 _ _ rfl w.heap.size 0 25 (bkL [0, 0, 0]) (bkL [(kd n 0 : Int), (kd n 1 : Int), (kd n 2 : Int)]) rfl rfl (KB3.out.at 1 rfl) (Nat.le_refl _) infoT (bkL_one _) ?_; intro w2 nb2 g2; have N2 : Hid (Blk w.heap.size 25 (bkL [(kd n 0 : Int), (kd n 1 : Int), (kd n 2 : Int)]) w2) := nb2; have B2 : Hid (Below w.heap.size w w2) := below_row KB3.out.bb g2 (Nat.le_refl _); clear nb2 g2))
        refine ret_blk_tmp rfl rfl w.heap.size 25 (bkL [(kd n 0 : Int), (kd n 1 : Int), (kd n 2 : Int)]) _ rfl N2.out Tryd.underlying25 rfl infoT ?_
        exact ⟨rfl, B2.out⟩
  · have E2 : Hid (ordB o = false) := decide_eq_false h
    have E1 : Hid (ordL o = [0, 0, 0]) := if_neg h
    have TU : Hid (∀ w', Calls Tryd.prog 13 #[.int .i64 o, .int .i64 0] w' fun e w2 => e = .returned (.int .i64 (-1)) ∧ w2 = w') := fun w' => turn_out o w' h
    rw [E1.out, E2.out]
    clear E1 E2 h
    go_enter Tryd.func11, Tryd.ntmps11
    go_wp2_with fail
    refine (TU.out _).mono ?_
    rintro e w1 ⟨rfl, rfl⟩
    clear TU
    go_wp2_with fail
    refine ret_blk_tmp rfl rfl w.heap.size 25 (bkL [0, 0, 0]) _ rfl ((Blk.new 25 (bkL [0, 0, 0]) w).old _) Tryd.underlying25 rfl infoT ?_
    exact ⟨rfl, BE.out _ _⟩
end Go.Proofs.YtplebplpachgiaaDoor
