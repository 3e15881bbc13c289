/-
  Ours: the statements' shelf of lists: put, still.
-/
import Derived.Test.YtmbbigkpeefjjabDoorCoZr
import Derived.Test.YtmbbigkpeefjjabDoorCoLs
import Derived.Test.YtmbbigkpeefjjabDoorPolHol
namespace Go.Proofs.YtmbbigkpeefjjabDoor
open Go.RowKit LedM PolM CoM

theorem rows_neC {e e' : TypeId} {base base' k k' n n' : Nat} {w : World} {v v' : Value} {xs ys : List Value} (h : w.ownsRow base e k v n xs) (h' : w.ownsRow base' e' k' v' n' ys) (hne : e ≠ e') {g : Nat} (hg : v.ownBlock = some g) : v'.ownBlock ≠ some g := by
  intro hg'
  rcases h.2 with ⟨rfl, _⟩ | ⟨g1, cap, cur, rfl, _, hh, _⟩
  · simp [Value.ownBlock] at hg
  rcases h'.2 with ⟨rfl, _⟩ | ⟨g2, cap', cur', rfl, _, hh', _⟩
  · simp [Value.ownBlock] at hg'
  obtain rfl : g1 = g := by simpa [Value.ownBlock] using hg
  obtain rfl : g2 = g1 := by simpa [Value.ownBlock] using hg'
  rw [hh] at hh'
  injection hh' with hh'
  injection hh' with h1 h2
  exact hne h2
theorem kept_rowC {e e' : TypeId} {B B' : Nat} {w w' : World} {x y : Value} {xs ys : List Value} (h : RowV e B w x xs) (g : w.grownBy w' x.ownBlock) (h' : RowV e' B' w y ys) (hne : e ≠ e') : RowV e' B' w' y ys :=
  h'.kept g (fun _ hq e1 => rows_neC h h' hne e1 hq)
theorem infoSl : (Tryd.prog.info? 22).map (fun i => (i.zero, i.size, i.bytes)) = some (some (.slice none 0 0), 1, 24) := by kernel_rfl
theorem int_ne_sl : (3 : TypeId) ≠ 22 := by decide
theorem int_ne_sh : (3 : TypeId) ≠ 35 := by decide
theorem sl_ne_sh : (22 : TypeId) ≠ 35 := by decide
def rpL (m i : Nat) : List Int := List.replicate m (-1 - (i : Int))
theorem rpL_len (m i : Nat) : (rpL m i).length = m := by simp [rpL]
/-- The shelf in the block SB: lists that their holder has written full, and longer ones behind them. -/
structure SH (B SB : Nat) (w : World) (vL vG : Value) (vs us : List Value) : Prop where
  ge : B ≤ SB
  blk : Blk SB 35 [vL, vG] w
  rl : RowV 22 B w vL vs
  rg : RowV 22 B w vG us
  ap : ∀ g, vL.ownBlock = some g → vG.ownBlock ≠ some g
  len : us.length = vs.length
  it : ∀ i, i < vs.length → ∃ m, m ≤ 1000 ∧ RowV 3 B w (vs.getD i undef) (bkL (rpL m i)) ∧ RowV 3 B w (us.getD i undef) (bkL (rpL m i) ++ z64)
/-- Apart from all that lies in the shelf. -/
def Far (v : Value) (vs us : List Value) : Prop := ∀ i, i < vs.length → ∀ g, v.ownBlock = some g → (vs.getD i undef).ownBlock ≠ some g ∧ (us.getD i undef).ownBlock ≠ some g
structure PFr (B : Nat) (v : Value) (w w' : World) : Prop where
  bb : Below B w w'
  kp : ∀ G T cs, T ≠ 3 → T ≠ 22 → T ≠ 35 → Blk G T cs w → Blk G T cs w'
  kr : ∀ x xs B', RowV 3 B' w x xs → (∀ g, x.ownBlock = some g → v.ownBlock ≠ some g) → RowV 3 B' w' x xs
  sz : w.heap.size ≤ w'.heap.size
section
variable {B SB : Nat} {w w1 w2 : World} {vL vG v : Value} {vs us : List Value} {xs : List Value}
theorem PFr.refl (B : Nat) (v : Value) (w : World) : PFr B v w w := ⟨Below.refl _ _, fun _ _ _ _ _ _ h => h, fun _ _ _ h _ => h, Nat.le_refl _⟩
theorem PFr.trans (h : PFr B v w w1) (k : PFr B v w1 w2) : PFr B v w w2 := ⟨h.bb.trans k.bb, fun G T cs a b c d => k.kp G T cs a b c (h.kp G T cs a b c d), fun x xs B' a b => k.kr x xs B' (h.kr x xs B' a b) b, Nat.le_trans h.sz k.sz⟩
theorem PFr.later (h : PFr B v w w1) (hs : B ≤ w1.heap.size) (b : Below w1.heap.size w1 w2) : PFr B v w w2 := h.trans ⟨b.mono hs, fun _ _ _ _ _ _ d => d.below b, fun _ _ _ a _ => a.later b, b.size⟩
theorem SH.later (h : SH B SB w vL vG vs us) (b : Below w.heap.size w w1) : SH B SB w1 vL vG vs us :=
  ⟨h.ge, h.blk.below b, h.rl.later b, h.rg.later b, h.ap, h.len, fun i hi => by obtain ⟨m, h0, h1, h2⟩ := h.it i hi; exact ⟨m, h0, h1.later b, h2.later b⟩⟩
theorem SH.size (h : SH B SB w vL vG vs us) : B ≤ w.heap.size := by have := h.blk.lt; have := h.ge; omega
/-- The row v is written. -/
theorem SH.intw (h : SH B SB w vL vG vs us) (hv : RowV 3 B w v xs) (g : w.grownBy w1 v.ownBlock) (hf : Far v vs us) : SH B SB w1 vL vG vs us :=
  ⟨h.ge, h.blk.grown g (row_ne_blkC hv h.blk int_ne_sh), kept_rowC hv g h.rl int_ne_sl, kept_rowC hv g h.rg int_ne_sl, h.ap, h.len, fun i hi => by
    obtain ⟨m, h0, h1, h2⟩ := h.it i hi
    exact ⟨m, h0, h1.kept g (fun q hq e => (hf i hi q e).1 hq), h2.kept g (fun q hq e => (hf i hi q e).2 hq)⟩⟩
theorem PFr.intw (h : PFr B v w w1) (hs : B ≤ w1.heap.size) (hv : RowV 3 B w1 v xs) (g : w1.grownBy w2 v.ownBlock) : PFr B v w w2 :=
  h.trans ⟨below_grown (Below.refl _ _) hv (Nat.le_refl _) hs g, fun _ _ _ a _ _ d => d.grown g (row_ne_blkC hv d (fun e => a e.symm)), fun _ _ _ a b => a.kept g (fun q hq e => b q hq e), g.size⟩
/-- A row of slices is written. -/
theorem PFr.slw {x : Value} (h : PFr B v w w1) (hs : B ≤ w1.heap.size) (hx : RowV 22 B w1 x xs) (g : w1.grownBy w2 x.ownBlock) : PFr B v w w2 :=
  h.trans ⟨below_grown (Below.refl _ _) hx (Nat.le_refl _) hs g, fun _ _ _ _ a _ d => d.grown g (row_ne_blkC hx d (fun e => a e.symm)), fun _ _ _ a _ => kept_rowC hx g a (fun e => int_ne_sl e.symm), g.size⟩
theorem PFr.shw (h : PFr B v w w1) (hs : B ≤ w1.heap.size) (hge : B ≤ SB) {cs : List Value} (hb : Blk SB 35 cs w1) (g : w1.grownBy w2 (some SB)) : PFr B v w w2 :=
  h.trans ⟨(Below.refl _ _).grown g hs (fun k e => by injection e with e; omega), fun G T cs' _ _ a d => d.grown g (fun e => by
    injection e with e; subst e
    have h1 : w1.heap[SB]? = _ := hb
    have h2 : w1.heap[SB]? = _ := d
    rw [h1] at h2; injection h2 with h2; injection h2 with _ h3; exact a h3.symm), fun _ _ _ a _ => rowV_blk a hb g int_ne_sh, g.size⟩
end
end Go.Proofs.YtmbbigkpeefjjabDoor
