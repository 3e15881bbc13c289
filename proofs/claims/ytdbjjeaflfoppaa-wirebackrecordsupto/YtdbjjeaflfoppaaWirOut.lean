/-
  Ours: the reference's PutText and Out: bytes that grow.
-/
import Derived.Test.YtdbjjeaflfoppaaWirUses
import Derived.Deep.RegionLaw
import Derived.Deep.AppendLies
namespace Go.Proofs.Ytdbjjeaflfoppaa
open Go.RowKit

/-- The reference's Out in memory: its bytes lie apart from the blocks of K. -/
structure OutS (K : Nat → Prop) (R base : Nat) (bs : List Nat) (w : World) : Prop where
  row : ∃ v, w.cell? ⟨R, 0, none⟩ = some v ∧ RowB 5 base w v bs ∧ ∀ g, v.ownBlock = some g → ¬ K g ∧ g ≠ R
  fz : w.frozen? ⟨R, 0, none⟩ = false
  lt : R < w.heap.size
  ge : base ≤ R
  kb : ∀ g, K g → g < w.heap.size ∧ g ≠ R
structure Fr (K : Nat → Prop) (base : Nat) (w w' : World) : Prop where
  below : Below base w w'
  kept : ∀ g, K g → w'.heap[g]? = w.heap[g]?
theorem Fr.refl (K : Nat → Prop) (base : Nat) (w : World) : Fr K base w w := ⟨Below.refl _ _, fun _ _ => rfl⟩
theorem Fr.trans {K : Nat → Prop} {base : Nat} {a b c : World} (h : Fr K base a b) (k : Fr K base b c) : Fr K base a c := ⟨h.below.trans k.below, fun g hg => (k.kept g hg).trans (h.kept g hg)⟩
theorem Fr.less {K K' : Nat → Prop} {base : Nat} {a b : World} (h : Fr K base a b) (hk : ∀ g, K' g → K g) : Fr K' base a b := ⟨h.below, fun g hg => h.kept g (hk g hg)⟩
theorem OutS.fr {K : Nat → Prop} {R base : Nat} {bs : List Nat} {w w' : World} (h : OutS K R base bs w) (hb : Below w.heap.size w w') : Fr K base w w' := ⟨hb.mono (Nat.le_of_lt (Nat.lt_of_le_of_lt h.ge h.lt)), fun g hg => hb.block g (h.kb g hg).1⟩
theorem OutS.later {K : Nat → Prop} {R base : Nat} {bs : List Nat} {w w' : World} (h : OutS K R base bs w) (hb : Below w.heap.size w w') : OutS K R base bs w' := by
  obtain ⟨v, c, r, a⟩ := h.row
  exact ⟨⟨v, (hb.cell (p := ⟨R, 0, none⟩) h.lt).trans c, RowV.later r hb, a⟩, by rw [World.frozen?_of_block (hb.block R h.lt)]; exact h.fz, Nat.lt_of_lt_of_le h.lt hb.size, h.ge, fun g hg => ⟨Nat.lt_of_lt_of_le (h.kb g hg).1 hb.size, (h.kb g hg).2⟩⟩
theorem OutS.more {K : Nat → Prop} {R base : Nat} {bs : List Nat} {w : World} (h : OutS K R base bs w) (K' : Nat → Prop) (h1 : ∀ g, K' g → K g ∨ (g < w.heap.size ∧ g ≠ R ∧ ∀ v, w.cell? ⟨R, 0, none⟩ = some v → v.ownBlock ≠ some g)) : OutS K' R base bs w := by
  obtain ⟨v, c, r, a⟩ := h.row
  refine ⟨⟨v, c, r, fun g hg => ⟨fun hk => ?_, (a g hg).2⟩⟩, h.fz, h.lt, h.ge, fun g hg => ?_⟩
  · rcases h1 g hk with h2 | ⟨_, _, h2⟩
    · exact (a g hg).1 h2
    · exact h2 v c hg
  · rcases h1 g hg with h2 | ⟨h2, h3, _⟩
    · exact h.kb g h2
    · exact ⟨h2, h3⟩
theorem OutS.push {K : Nat → Prop} {R base g cap m : Nat} {bs bs' : List Nat} {w w1 w2 : World} {v : Value} (h : OutS K R base bs w) (hv : w.cell? ⟨R, 0, none⟩ = some v) (hb : Below w.heap.size w w1)
    (hown : RowB 5 base w2 (.slice (some ⟨g, 0, none⟩) m cap) bs') (hgrow : w1.grownBy w2 v.ownBlock) (hat : v.ownBlock = some g ∨ w.heap.size ≤ g) :
    OutS K R base bs' (w2.setCell ⟨R, 0, none⟩ (.slice (some ⟨g, 0, none⟩) m cap)) ∧ Fr K base w (w2.setCell ⟨R, 0, none⟩ (.slice (some ⟨g, 0, none⟩) m cap)) ∧ w2.cell? ⟨R, 0, none⟩ = some v ∧ w2.frozen? ⟨R, 0, none⟩ = false := by
  obtain ⟨v0, c, r, a⟩ := h.row
  rw [hv] at c
  cases c
  have blk : ∀ k, k < w.heap.size → v.ownBlock ≠ some k → w2.heap[k]? = w.heap[k]? := fun k hk hn => (hgrow.block k (Nat.lt_of_lt_of_le hk hb.size) (fun e => hn e.symm)).trans (hb.block k hk)
  have bR := blk R h.lt (fun e => (a R e).2 rfl)
  have c2 : w2.cell? ⟨R, 0, none⟩ = some v := (World.cell?_of_block (a := ⟨R, 0, none⟩) bR).trans hv
  have f2 : w2.frozen? ⟨R, 0, none⟩ = false := by rw [World.frozen?_of_block bR]; exact h.fz
  have sz : w.heap.size ≤ w2.heap.size := Nat.le_trans hb.size hgrow.size
  have gK : ¬ K g ∧ g ≠ R := by
    rcases hat with e | e
    · exact a g e
    · exact ⟨fun hk => by have := (h.kb g hk).1; omega, by have := h.lt; omega⟩
  have sg := setCell_grown w2 R 0 (.slice (some ⟨g, 0, none⟩) m cap)
  refine ⟨⟨⟨_, World.cell?_setCell_same _ _ _ c2, RowV.kept hown sg (fun g' e => by simp only [Value.ownBlock] at e; cases e; intro e; injection e with e; exact gK.2 e.symm), fun g' e => by simp only [Value.ownBlock] at e; cases e; exact gK⟩, by rw [World.frozen?_setCell]; exact f2, by simp; have := h.lt; omega, h.ge, fun g' hg => ⟨by have := (h.kb g' hg).1; simp; omega, (h.kb g' hg).2⟩⟩, ⟨?_, fun g' hg => ?_⟩, c2, f2⟩
  · refine ⟨hgrow.os.trans hb.os, hgrow.tape.trans hb.tape, hgrow.output.trans hb.output, by simp; omega, fun k hk => ?_⟩
    have hR := h.ge
    have hL := h.lt
    rw [sg.block k (by omega) (fun e => by injection e with e; omega)]
    exact blk k (by omega) (fun e => by have := RowV.block_ge r e; omega)
  · obtain ⟨k1, k2⟩ := h.kb g' hg
    rw [sg.block g' (by omega) (fun e => by injection e with e; exact k2 e)]
    exact blk g' k1 (fun e => (a g' e).1 hg)
end Go.Proofs.Ytdbjjeaflfoppaa
