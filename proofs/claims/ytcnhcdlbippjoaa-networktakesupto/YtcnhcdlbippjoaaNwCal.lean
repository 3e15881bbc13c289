/-
  Ours: New, Now, Calm; the letters, the delays, the next fate.
-/
import Derived.Test.YtcnhcdlbippjoaaNwNet
namespace Go.Proofs.Ytcnhcdlbippjoaa
open Go.RowKit NwM

set_option maxRecDepth 20000 in
set_option maxHeartbeats 2000000 in
theorem newReceiver_at (w : World) : Calls Try.prog 13 #[] w fun e w' => ∃ b, e = .returned (.agg #[.map (some b), .slice none 0 0]) ∧ SetAt b [] w' ∧ w.heap.size ≤ b ∧ Below w.heap.size w w' := by
  have hmm := @run_makeMap Try.prog
  go_enter Try.func13, Try.ntmps13
  go_wp2_with fail
  have hB : Hid (Blk w.heap.size 50 [.map (some (w.heap.size + 1)), .slice none 0 0] ((w.alloc (.cells #[.map (some (w.heap.size + 1)), .slice none 0 0] 50)).alloc (.map #[] 0)) ∧ SetAt (w.heap.size + 1) [] ((w.alloc (.cells #[.map (some (w.heap.size + 1)), .slice none 0 0] 50)).alloc (.map #[] 0)) ∧ Below w.heap.size w ((w.alloc (.cells #[.map (some (w.heap.size + 1)), .slice none 0 0] 50)).alloc (.map #[] 0))) := by
    refine ⟨(Blk.new _ _ w).old _, ?_, below_trans (below_alloc _ _) (below_alloc _ _)⟩
    have := SetAt.new (w.alloc (.cells #[.map (some (w.heap.size + 1)), .slice none 0 0] 50)) 0
    rwa [show (w.alloc (.cells #[.map (some (w.heap.size + 1)), .slice none 0 0] 50)).heap.size = w.heap.size + 1 from by simp] at this
  exact ret_blk rfl rfl w.heap.size _ [.map (some (w.heap.size + 1)), .slice none 0 0] _ rfl hB.out.1 Try.underlying50 rfl (by kernel_rfl) ⟨_, rfl, hB.out.2.1, by omega, hB.out.2.2⟩

/-- A new network. -/
def NewN (w : World) (e : Ending) (w' : World) : Prop := ∃ R S, e = .returned (.pointer (some ⟨R, 0, none⟩)) ∧ NetAt R S (fun _ => False) nt0 w' ∧ (∀ g, S g → w.heap.size ≤ g) ∧ Below w.heap.size w w'
abbrev nilS : Value := .slice none 0 0
theorem new_net {w w1 : World} {b : Nat} (hs : SetAt b [] w1) (hb : w.heap.size ≤ b) (h : Below w.heap.size w w1) :
    NewN w (.returned (.pointer (some ⟨w1.heap.size, 0, none⟩))) (w1.alloc (.cells #[.int .i64 0, nilS, nilS, nilS, nilS, nilS, nilS, nilS, nilS, nilS, nilS, nilS, .map (some b), nilS] 56)) := by
  have ba := below_alloc w1 (.cells #[.int .i64 0, nilS, nilS, nilS, nilS, nilS, nilS, nilS, nilS, nilS, nilS, nilS, .map (some b), nilS] 56)
  have lt := hs.lt
  have gd : ∀ i, i < 10 → (List.replicate 10 nilS).getD i undef = nilS := fun i hi => by rw [List.getD_eq_getElem?_getD, List.getElem?_replicate, if_pos hi]; rfl
  have gf : ∀ i, i < 10 → nt0.fl.getD i [] = [] := fun i hi => by show (List.replicate 10 ([] : List Pk)).getD i [] = []; rw [List.getD_eq_getElem?_getD, List.getElem?_replicate, if_pos hi]; rfl
  refine ⟨w1.heap.size, fun g => g = b ∨ g = w1.heap.size, rfl, ⟨b, nilS, nilS, List.replicate 10 nilS, ?_, rfl, rfl, .inl ⟨rfl, rfl⟩, fun i hi => ?_, Row3.nil _ _ _ _, hs.same (ba.block b lt), ?_, ?_, ?_, (fun g hg => hg.elim), .inr rfl, .inl rfl, ?_, ?_, ?_, ?_, ?_⟩, ?_, below_trans h ba⟩
  · exact Blk.new 56 [.int .i64 0, nilS, nilS, nilS, nilS, nilS, nilS, nilS, nilS, nilS, nilS, nilS, .map (some b), nilS] w1
  · rw [gd i hi, gf i hi]; exact Row3.nil _ _ _ _
  · intro r hr p hp
    simp [nt0] at hr
    rw [hr] at hp
    cases hp
  · intro a ha; cases ha
  · have hsz : (w1.alloc (.cells #[.int .i64 0, nilS, nilS, nilS, nilS, nilS, nilS, nilS, nilS, nilS, nilS, nilS, .map (some b), nilS] 56)).heap.size = w1.heap.size + 1 := by simp
    rintro g (rfl | rfl) <;> omega
  · intro g e; cases e
  · intro i hi g e; rw [gd i hi] at e; cases e
  · intro g e; cases e
  · intro i j hi hj hij g e; rw [gd i hi] at e; cases e
  · intro f hf; cases hf
  · have := h.size
    rintro g (rfl | rfl) <;> omega
set_option maxRecDepth 20000 in
set_option maxHeartbeats 2000000 in
theorem new_at (w : World) : Calls Try.prog 8 #[] w (NewN w) := by
  have NR : Hid (Calls Try.prog 13 #[] w fun e w' => ∃ b, e = .returned (.agg #[.map (some b), .slice none 0 0]) ∧ SetAt b [] w' ∧ w.heap.size ≤ b ∧ Below w.heap.size w w') := newReceiver_at w
  go_enter Try.func8, Try.ntmps8
  go_wp2_with fail
  refine NR.out.mono ?_
  rintro e w1 ⟨b, rfl, s1, h1, b1⟩
  have FN : Hid (NewN w (.returned (.pointer (some ⟨w1.heap.size, 0, none⟩))) (w1.alloc (.cells #[.int .i64 0, nilS, nilS, nilS, nilS, nilS, nilS, nilS, nilS, nilS, nilS, nilS, .map (some b), nilS] 56))) := new_net s1 h1 b1
  clear s1 h1 b1 NR
  go_wp2_with fail
  go_ret
  exact FN.out

set_option maxRecDepth 20000 in
set_option maxHeartbeats 2000000 in
theorem now_at (R : Nat) (S B : Nat → Prop) (t : Nt) (w : World) (h : NetAt R S B t w) : Calls Try.prog 23 #[.pointer (some ⟨R, 0, none⟩)] w fun e w' => e = .returned (.int .i64 ((t.now : Nat) : Int)) ∧ w = w' := by
  obtain ⟨bm, fv, av, vs, h⟩ := h
  have c0 := h.c0
  have lt := h.lt
  clear h
  go_enter Try.func23, Try.ntmps23
  go_wp2_with fail
  go_ret
  exact ⟨rfl, rfl⟩

theorem calm_net {R : Nat} {S B : Nat → Prop} {t : Nt} {w : World} (h : NetAt R S B t w) : NPost R S B w (calm t) S B (w.setCell ⟨R, 1, none⟩ nilS) := by
  obtain ⟨bm, fv, av, vs, h⟩ := h
  obtain ⟨h1, h2, -, -⟩ := h.fates (fv' := nilS) (fs := []) (Kp.refl _ _) (.inl ⟨rfl, rfl⟩) (fun g e => by cases e) (fun g e => by cases e) (fun f hf => by cases hf)
  have e : (fun g => S g ∨ nilS.ownBlock = some g) = S := by funext g; simp [Value.ownBlock]
  rw [e] at h1
  exact ⟨⟨bm, _, av, vs, h1⟩, fun _ h => .inl h, fun _ h => .inl h, fun _ h => h, h2⟩
set_option maxRecDepth 20000 in
set_option maxHeartbeats 2000000 in
theorem calm_at (R : Nat) (S B : Nat → Prop) (t : Nt) (w : World) (h : NetAt R S B t w) : Calls Try.prog 16 #[.pointer (some ⟨R, 0, none⟩)] w fun e w' => e = .returned (.tuple #[]) ∧ NPost R S B w (calm t) S B w' := by
  have F0 : Hid (NPost R S B w (calm t) S B (w.setCell ⟨R, 1, none⟩ nilS)) := calm_net h
  obtain ⟨bm, fv, av, vs, h⟩ := h
  have c1 := h.c1
  have f1 := h.fz 1
  have lt := h.lt
  clear h
  go_enter Try.func16, Try.ntmps16
  go_wp2_with fail
  go_end0
  exact ⟨rfl, F0.out⟩

set_option maxRecDepth 20000 in
set_option maxHeartbeats 2000000 in
theorem isFate_at (f : Int) (w : World) : Calls Try.prog 29 #[.int .i32 f] w fun e w' => e = .returned (.bool (decide (f = 120 ∨ f = 100 ∨ (49 ≤ f ∧ f ≤ 57)))) ∧ w = w' := by
  go_enter Try.func29, Try.ntmps29
  by_cases h1 : f = 120
  · have e1 : (f == 120) = true := by simp [h1]
    go_wp2_with fail
    go_ret
    exact ⟨by simp [h1], rfl⟩
  · by_cases h2 : f = 100
    · have e1 : (f == 120) = false := by simp [h1]
      have e2 : (f == 100) = true := by simp [h2]
      go_wp2_with fail
      go_ret
      exact ⟨by simp [h2], rfl⟩
    · have e1 : (f == 120) = false := by simp [h1]
      have e2 : (f == 100) = false := by simp [h2]
      by_cases h3 : 49 ≤ f
      · by_cases h4 : f ≤ 57
        · have e3 : decide (49 ≤ f) = true := decide_eq_true h3
          have e4 : decide (f ≤ 57) = true := decide_eq_true h4
          go_wp2_with fail
          go_ret
          exact ⟨by simp [h3, h4], rfl⟩
        · have e3 : decide (49 ≤ f) = true := decide_eq_true h3
          have e4 : decide (f ≤ 57) = false := decide_eq_false h4
          go_wp2_with fail
          go_ret
          exact ⟨rfl, rfl⟩
      · have e3 : decide (49 ≤ f) = false := decide_eq_false h3
        go_wp2_with fail
        go_ret
        exact ⟨rfl, rfl⟩

/-- New numbers. -/
def NewI (w : World) (xs : List Nat) (e : Ending) (w' : World) : Prop := ∃ v, e = .returned v ∧ RowV 3 w.heap.size w' v (xs.map (fun x => iv ((x : Nat) : Int))) ∧ Below w.heap.size w w'
theorem row_new (e : TypeId) (cs : List Value) (w : World) (hl : cs.length ≤ maxLen) : RowV e w.heap.size (w.alloc (.cells cs.toArray e)) (.slice (some ⟨w.heap.size, 0, none⟩) cs.length cs.length) cs :=
  ⟨by simp, .inr ⟨w.heap.size, cs.length, cs.toArray, rfl, Nat.le_refl _, Blk.new e cs w, Nat.le_refl _, hl, by simp, by simp⟩⟩
set_option maxRecDepth 20000 in
set_option maxHeartbeats 2000000 in
theorem delays_at (f : Nat) (w : World) (hf : isF f) : Calls Try.prog 43 #[.int .i32 ((f : Nat) : Int)] w (NewI w (dl f)) := by
  have F1 : Hid (∀ x : Nat, RowV 3 w.heap.size (w.alloc (.cells #[.int .i64 (x : Int)] 3)) (.slice (some ⟨w.heap.size, 0, none⟩) 1 1) [iv (x : Int)]) := fun x => row_new 3 [iv (x : Int)] w (by show 1 ≤ maxLen; decide)
  have F2 : Hid (RowV 3 w.heap.size (w.alloc (.cells #[.int .i64 1, .int .i64 2] 3)) (.slice (some ⟨w.heap.size, 0, none⟩) 2 2) [iv 1, iv 2]) := row_new 3 [iv 1, iv 2] w (by decide)
  by_cases h1 : f = 120
  · subst h1
    go_enter Try.func43, Try.ntmps43
    go_wp2_with fail
    go_ret
    exact ⟨_, rfl, RowV.nil _ _ _, Below.refl _ _⟩
  · by_cases h2 : f = 100
    · subst h2
      go_enter Try.func43, Try.ntmps43
      go_wp2_with fail
      go_ret
      exact ⟨_, rfl, F2.out, below_alloc _ _⟩
    · have hr : 49 ≤ f ∧ f ≤ 57 := by unfold isF at hf; omega
      have e1 : (((f : Nat) : Int) == 120) = false := by simp; omega
      have e2 : (((f : Nat) : Int) == 100) = false := by simp; omega
      have e3 : IntKind.i32.wrap (((f : Nat) : Int) - 48) = ((f - 48 : Nat) : Int) := by simp [IntKind.wrap, IntKind.bits, IntKind.signed]; omega
      have e4 : dl f = [f - 48] := by unfold dl; rw [if_neg h1, if_neg h2]
      rw [e4]
      have FF := F1.out (f - 48)
      have hy : f - 48 ≤ 9 := by omega
      generalize f - 48 = y at *
      have HH : Hid (RowV 3 w.heap.size (w.alloc (.cells #[.int .i64 (y : Int)] 3)) (.slice (some ⟨w.heap.size, 0, none⟩) 1 1) [iv (y : Int)]) := FF
      clear FF F1 F2 e4
      go_enter Try.func43, Try.ntmps43
      go_wp2_with fail
      go_ret
      exact ⟨_, rfl, HH.out, below_alloc _ _⟩
end Go.Proofs.Ytcnhcdlbippjoaa
