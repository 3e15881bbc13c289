/-
  Ours: a range over a function whose iterator says, at each call of yield, what holds of the value that it hands over in the world at hand.
-/
import Derived.RangeFuncBox
import Derived.RangeFuncLeaves
import Derived.Shelf.Abstract
import Derived.WalkKit
import Derived.OwnWalkIn
import Derived.TacticsInMore
import Derived.LoopNIn
import Derived.LoopIn
namespace Go.Proofs.YtcmfehabcklbpaaDoor
open Go.RowKit

/-- The blocks of K lie as they lay. -/
structure Still (K : Nat → Prop) (W W' : World) : Prop where
  size : W.heap.size ≤ W'.heap.size
  same : ∀ k, K k → W'.heap[k]? = W.heap[k]?
theorem Still.refl (K : Nat → Prop) (W : World) : Still K W W := ⟨Nat.le_refl _, fun _ _ => rfl⟩
theorem Still.trans {K : Nat → Prop} {A B C : World} (h : Still K A B) (k : Still K B C) : Still K A C := ⟨Nat.le_trans h.size k.size, fun i h1 => (k.same i h1).trans (h.same i h1)⟩
theorem Still.put {K : Nat → Prop} {l : Nat} (W : World) (o : Obj) (h : ∀ k, K k → k < l) : Still K W (W.putObj l o) := ⟨by simp, fun k hk => World.putObj_heap_other (by have := h k hk; omega)⟩
theorem Still.below {K : Nat → Prop} {n : Nat} {A B : World} (h : Below n A B) (hn : ∀ k, K k → k < n) : Still K A B := ⟨h.size, fun k hk => h.block k (hn k hk)⟩

variable {P : Program}

/-- The iterator's word. -/
def SeqTells {α : Type} (P : Program) (g : Nat) (lb : Array Value) (encs : α → Array Value) (Pr : List α → α → World → Prop) (K : Nat → Prop) (S Sp : List α → Prop) (w : World) : Prop :=
  ∀ (n l : Nat) (J Jx : List α → World → Prop) (W : World), Below w.heap.size w W → (∀ s A B, J s A → Below A.heap.size A B → J s B) → (∀ s A B, Jx s A → Below A.heap.size A B → Jx s B) →
    (∀ pre x W1, J pre W1 → Pr pre x W1 → YieldAt Fence.wide n P l (encs x) W1 fun e W' =>
      (e = .returned (.bool true) ∧ J (pre ++ [x]) W' ∧ Still K W1 W') ∨ (e = .returned (.bool false) ∧ Jx (pre ++ [x]) W')) →
    J [] W →
    CallsIn Fence.wide (n + 1) P g (#[.func (.yield l) #[] #[]] ++ lb) W fun e W' => (∃ v, e = .returned v) ∧ ((∃ xs, S xs ∧ J xs W') ∨ (∃ pre, Sp pre ∧ Jx pre W'))

theorem grown_of_below {A B : World} (h : Below A.heap.size A B) : A.grownBy B none := ⟨h.os, h.tape, h.output, h.size, fun k hk _ => h.block k hk⟩

/-- The statement, over an iterator that has that word. -/
theorem wpIn_range_tells {α : Type} {g : Operand} {ps : Array Tmp} {assign body : Code} {Q : Exit → Act → World → Prop} {a : Act} {w : World} {n : Nat}
    {gf : Nat} {lb : Array Value} (hg : a.eval g = .func (.func gf) #[] lb) (eg : ∀ args w, (callFunc gf args).run P w = .ok (.enter gf args) w)
    {encs : α → Array Value} {Pr : List α → α → World → Prop} {K : Nat → Prop} {S Sp : List α → Prop} {w0 : World} (hseq : SeqTells P gf lb encs Pr K S Sp w0) (hb0 : Below w0.heap.size w0 w) (hhi : ∀ k, K k → k < w.heap.size)
    (hps : ∀ x, (encs x).size = ps.size) (I : List α → World → Prop) (Ix : Code → List α → World → Prop) (hI : OwnFrom w.heap.size I) (hIx : ∀ c, OwnFrom w.heap.size (Ix c)) (hPr : ∀ pre, OwnFrom w.heap.size (Pr pre)) (h0 : I [] w) (a₁ : α → Act)
    (hassign : ∀ (l : Nat) (x : α) (W : World) (C : Act → World → Prop), C (a₁ x) W →
      assign.wpIn (Fence.wide.inRound l) n P (Exit.then C (fun _ _ _ => False)) { tmps := (ps.zip (encs x)).foldl (fun t (p, v) => t.setIfInBounds p v) a.tmps, defers := [] } W)
    (hbody : ∀ (l : Nat) (pre : List α) (x : α) (W : World), I pre W → Pr pre x W → body.wpIn (Fence.wide.inRound l) n P (ownPostK (Still K) I Ix (pre ++ [x]) W) (a₁ x) W)
    (hdone : ∀ (xs : List α) (W : World), S xs → I xs W → W.heap[w.heap.size]? = some (.deferred (some [])) → Q .normal { a with defers := { target := .collected w.heap.size, args := #[] } :: a.defers } W)
    (hstop : ∀ (c : Code) (pre : List α) (W : World), Sp pre → Ix c pre W → W.heap[w.heap.size]? = some (.deferred (some [])) → c.wpIn Fence.wide (n + 2) P Q { a with defers := { target := .collected w.heap.size, args := #[] } :: a.defers } W) :
    (Code.rangeFunc g ps assign body).wpIn Fence.wide (n + 2) P Q a w := by
  refine wpIn_rangeFunc fun fn hfn => ?_
  let rec' : LoopState → Option Code → Obj := fun st pe => .loop { state := st, pending := pe, fn, tmps := a.tmps, params := ps, assign, body, defers := w.heap.size }
  let D := w.heap.size
  let L := w.heap.size + 1
  have e1 : (Instr.enterLoop fn a.tmps ps assign body Fence.wide.round).run P w = .ok (L, [{ target := .collected D, args := #[] }]) ((w.alloc (.deferred (some []))).alloc (rec' .ready none)) := run_enterLoop_outer _ _ _ _ _
  generalize hW1 : (w.alloc (.deferred (some []))).alloc (rec' .ready none) = W1 at e1
  have atL : W1.heap[L]? = some (rec' .ready none) := by
    rw [← hW1]
    have := World.alloc_heap_new (w.alloc (.deferred (some []))) (rec' .ready none)
    rwa [World.size_alloc] at this
  have atD : W1.heap[D]? = some (.deferred (some [])) := by
    rw [← hW1]
    exact (Below.heap_alloc _ _ _ (by simp [D])).trans (World.alloc_heap_new w _)
  have I1 : I [] W1 := by rw [← hW1]; exact hI.alloc _ (hI.alloc _ h0)
  have B1 : Below w0.heap.size w0 W1 := by
    rw [← hW1]
    exact hb0.trans ((((Below.refl _ w).alloc (Nat.le_refl _) _).alloc (by simp) _).mono hb0.size)
  refine ⟨L, _, W1, { target := .fn (.func gf) lb, args := #[.func (.yield L) #[] #[]] }, W1, gf, #[.func (.yield L) #[] #[]] ++ lb, W1, e1, by simp only [resolve, hg]; simp [go_sem], fun f' _ => trivial, by simp [invoke, go_sem, eg], fun _ => by omega, ?_⟩
  -- what the iterator carries: the caller's own, and where the two blocks of the loop stand
  let J : List α → World → Prop := fun pre W => I pre W ∧ W.heap[L]? = some (rec' .ready none) ∧ W.heap[D]? = some (.deferred (some []))
  let Jx : List α → World → Prop := fun pre W => ∃ c, Ix c pre W ∧ W.heap[L]? = some (rec' .done (some c)) ∧ W.heap[D]? = some (.deferred (some []))
  have lives : ∀ {A B : World} {k : Nat} {o : Obj}, Below A.heap.size A B → A.heap[k]? = some o → B.heap[k]? = some o := fun hb h => (hb.block _ (Array.getElem?_eq_some_iff.1 h).1).trans h
  have sJ : ∀ s A B, J s A → Below A.heap.size A B → J s B := fun s A B h hb => ⟨hI s A B none h.1 (grown_of_below hb) (fun r e => by cases e), lives hb h.2.1, lives hb h.2.2⟩
  have sJx : ∀ s A B, Jx s A → Below A.heap.size A B → Jx s B := fun s A B ⟨c, h1, h2, h3⟩ hb => ⟨c, hIx c s A B none h1 (grown_of_below hb) (fun r e => by cases e), lives hb h2, lives hb h3⟩
  refine (hseq n L J Jx W1 B1 sJ sJx (fun pre x W hJ hp => ?_) ⟨I1, atL, atD⟩).mono fun e W2 hR => ?_
  · obtain ⟨hi0, hl, hd⟩ := hJ
    have hy := run_yield (P := P) (args := encs x) hl (hps x)
    refine ⟨fn, _, assign, body, hy, roundIn_of_wpIn hfn (hassign L x W _ ⟨_, run_beginRound hl rfl, ?_⟩)⟩
    let o' : Obj := rec' .busy none
    have hltL : L < W.heap.size := (Array.getElem?_eq_some_iff.1 hl).1
    have hl2 : (W.putObj L o').heap[L]? = some o' := World.putObj_heap_same hltL
    have hd2 : (W.putObj L o').heap[D]? = some (.deferred (some [])) := (World.putObj_heap_other (by simp [L, D])).trans hd
    have st2 : Still K W (W.putObj L o') := Still.put W o' (fun k hk => by have := hhi k hk; simp only [L]; omega)
    have round : ∀ (jump : Option Code) (W3 : World), KeepsOthers (W.putObj L o') W3 → (Instr.endRound L jump).run P W3 = .ok (.bool jump.isNone) (W3.putObj L (rec' (if jump.isNone then .ready else .done) jump)) ∧ W3.heap[L]? = some o' ∧
        (W3.putObj L (rec' (if jump.isNone then .ready else .done) jump)).heap[L]? = some (rec' (if jump.isNone then .ready else .done) jump) ∧ (W3.putObj L (rec' (if jump.isNone then .ready else .done) jump)).heap[D]? = some (.deferred (some [])) := fun jump W3 hk => by
      have h3 := hk.same L _ hl2 rfl
      exact ⟨run_endRound jump h3, h3, World.putObj_heap_same (Array.getElem?_eq_some_iff.1 h3).1, (World.putObj_heap_other (by simp [L, D])).trans (hk.same D _ hd2 rfl)⟩
    refine wpIn_mono (hbody L pre x _ (hI.putObj _ hi0 (by simp only [L]; omega) hl rfl) ((hPr pre).putObj _ hp (by simp only [L]; omega) hl rfl)) ?_
    intro e a3 W3 hp3
    cases e with
    | normal =>
      obtain ⟨k3, s3, i3⟩ := hp3
      obtain ⟨r1, r2, r3, r4⟩ := round none W3 k3
      exact ⟨_, _, r1, .inl ⟨rfl, ⟨hI.putObj _ i3 (by simp only [L]; omega) r2 rfl, r3, r4⟩, (st2.trans s3).trans (Still.put W3 _ (fun k hk => by have := hhi k hk; simp only [L]; omega))⟩⟩
    | ret =>
      obtain ⟨k3, i3⟩ := hp3
      obtain ⟨r1, r2, r3, r4⟩ := round (some .ret) W3 k3
      exact ⟨_, _, r1, .inr ⟨rfl, .ret, (hIx _).putObj _ i3 (by simp only [L]; omega) r2 rfl, r3, r4⟩⟩
    | exit id =>
      obtain ⟨k3, i3⟩ := hp3
      obtain ⟨r1, r2, r3, r4⟩ := round (some (.exit id)) W3 k3
      exact ⟨_, _, r1, .inr ⟨rfl, .exit id, (hIx _).putObj _ i3 (by simp only [L]; omega) r2 rfl, r3, r4⟩⟩
    | goto t =>
      obtain ⟨k3, i3⟩ := hp3
      obtain ⟨r1, r2, r3, r4⟩ := round (some (.goto t)) W3 k3
      exact ⟨_, _, r1, .inr ⟨rfl, .goto t, (hIx _).putObj _ i3 (by simp only [L]; omega) r2 rfl, r3, r4⟩⟩
    | panic ch => exact hp3.elim
    | outgrown => exact hp3.elim
  · obtain ⟨⟨v, rfl⟩, h⟩ := hR
    rcases h with ⟨xs, hS, i1, l1, d1⟩ | ⟨pre, hS, c, i1, l1, d1⟩
    · exact ⟨none, _, run_endLoop l1 (by simp), hdone xs _ hS (hI.putObj _ i1 (by simp only [L]; omega) l1 rfl) ((World.putObj_heap_other (by simp [L])).trans d1)⟩
    · exact ⟨some c, _, run_endLoop l1 (by simp), hstop c pre _ hS ((hIx c).putObj _ i1 (by simp only [L]; omega) l1 rfl) ((World.putObj_heap_other (by simp [L])).trans d1)⟩
end Go.Proofs.YtcmfehabcklbpaaDoor
