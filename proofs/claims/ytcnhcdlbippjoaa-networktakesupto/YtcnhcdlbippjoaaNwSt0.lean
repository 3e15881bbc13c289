/-
  Ours: what stands while a step of the statement is played.
-/
import Derived.Test.YtcnhcdlbippjoaaNwOk
import Derived.Test.YtcnhcdlbippjoaaNwBk2
namespace Go.Proofs.Ytcnhcdlbippjoaa
open Go.RowKit NwM
abbrev prL (R now : Nat) (aa : Option Addr) (an ac : Nat) (fa : Option Addr) (fn fc : Nat) (ma : Option Addr) (mn mc : Nat) : List Value := [.pointer (some ⟨R, 0, none⟩), .int .i64 ((now : Nat) : Int), .slice aa an ac, .slice fa fn fc, .slice ma mn mc]
abbrev prZ : List Value := [.pointer none, .int .i64 0, .slice none 0 0, .slice none 0 0, .slice none 0 0]
structure ST (Z R Q : Nat) (w0 : World) (S0 B0 C0 W0 M0 S B C W M : Nat → Prop) (t : Nt) (r : RNt) (aa : Option Addr) (an ac : Nat) (fa : Option Addr) (fn fc : Nat) (ma : Option Addr) (mn mc : Nat) (N : Nat) (pc oc : List Value) (wr : World) : Prop where
  net : NetAt R S B t wr
  rv : RefV C wr r aa an ac fa fn fc ma mn mc
  cs : ∀ g, C g → ¬ S g
  b : BkA Q N W M wr
  dj : ∀ g, S g ∨ B g ∨ C g → ¬ (W g ∨ M g)
  s : ∀ g, S g ∨ B g ∨ C g → (S0 g ∨ B0 g ∨ C0 g) ∨ w0.heap.size ≤ g
  m : ∀ g, W g ∨ M g → (W0 g ∨ M0 g) ∨ w0.heap.size ≤ g
  sw : ∀ g, S g → S0 g ∨ w0.heap.size ≤ g
  ww : ∀ g, W g → W0 g ∨ w0.heap.size ≤ g
  k : Kp (fun g => S0 g ∨ W0 g) w0 wr
  bp : Blk Z 37 pc wr
  bo : Blk (Z + 1) 45 oc wr
  bz : Blk (Z + 1 + 1) 37 prZ wr
  nz : ∀ g, (S g ∨ B g ∨ C g) ∨ (W g ∨ M g) → ¬ (g = Z ∨ g = Z + 1 ∨ g = Z + 1 + 1)
  hz : w0.heap.size = Z
section
variable {Z R Q : Nat} {w0 : World} {S0 B0 C0 W0 M0 S B C W M : Nat → Prop} {t : Nt} {r : RNt} {aa : Option Addr} {an ac : Nat} {fa : Option Addr} {fn fc : Nat} {ma : Option Addr} {mn mc : Nat} {N : Nat} {pc oc : List Value} {wr w' : World}
theorem ST.start {w : World} {o : List Value} (h : PrA R S B C t r aa an ac fa fn fc ma mn mc w) (hb : BkA Q N W M w) (hd : ∀ g, S g ∨ B g ∨ C g → ¬ (W g ∨ M g)) (pc : List Value) :
    ST w.heap.size R Q w S B C W M S B C W M t r aa an ac fa fn fc ma mn mc N pc o (((w.alloc (.cells pc.toArray 37)).alloc (.cells o.toArray 45)).alloc (.cells prZ.toArray 37)) := by
  have b : Below w.heap.size w (((w.alloc (.cells pc.toArray 37)).alloc (.cells o.toArray 45)).alloc (.cells prZ.toArray 37)) := below_trans (below_trans (below_alloc _ _) (below_alloc _ _)) (below_alloc _ _)
  refine ⟨h.net.below b, h.rv.below b, h.cs, hb.kp (Kp.of_below b (fun _ => False)) (fun _ _ z => z), hd, fun g hg => .inl hg, fun g hg => .inl hg, fun g hg => .inl hg, fun g hg => .inl hg, Kp.of_below b _, ((Blk.new _ _ _).old _).old _, (Blk.new2 _ _ _ _).old _, Blk.new3 _ _ _ _ _, fun g hg => ?_, rfl⟩
  have : g < w.heap.size := by
    rcases hg with hg | hg
    · exact h.lt g hg
    · exact hb.lt g hg
  omega
theorem ST.below (h : ST Z R Q w0 S0 B0 C0 W0 M0 S B C W M t r aa an ac fa fn fc ma mn mc N pc oc wr) (b : Below wr.heap.size wr w') : ST Z R Q w0 S0 B0 C0 W0 M0 S B C W M t r aa an ac fa fn fc ma mn mc N pc oc w' :=
  ⟨h.net.below b, h.rv.below b, h.cs, h.b.kp (Kp.of_below b (fun _ => False)) (fun _ _ z => z), h.dj, h.s, h.m, h.sw, h.ww, h.k.trans (Kp.of_below b (fun _ => False)) (fun _ _ z => z.elim), h.bp.below b, h.bo.below b, h.bz.below b, h.nz, h.hz⟩
theorem ST.lt (h : ST Z R Q w0 S0 B0 C0 W0 M0 S B C W M t r aa an ac fa fn fc ma mn mc N pc oc wr) : ∀ g, (S g ∨ B g ∨ C g) ∨ (W g ∨ M g) → g < wr.heap.size := fun g hg => by
  rcases hg with (hg | hg | hg) | hg
  · exact h.net.s hg
  · exact (h.net.b hg).1
  · exact h.rv.c g hg
  · exact h.b.lt g hg
/-- A call on the network. -/
theorem ST.netP (h : ST Z R Q w0 S0 B0 C0 W0 M0 S B C W M t r aa an ac fa fn fc ma mn mc N pc oc wr) {t' : Nt} {S' B' : Nat → Prop} (p : NPost R S B wr t' S' B' w') : ST Z R Q w0 S0 B0 C0 W0 M0 S' B' C W M t' r aa an ac fa fn fc ma mn mc N pc oc w' := by
  have sz := h.k.size
  have nS : ∀ g, g = Z ∨ g = Z + 1 ∨ g = Z + 1 + 1 → ¬ S g := fun g hg hs => h.nz g (.inl (.inl hs)) hg
  have l0 := h.bp.lt
  have l1 := h.bo.lt
  have l2 := h.bz.lt
  refine ⟨p.net, h.rv.kp p.k (fun g hg => h.cs g hg), fun g hg hs => ?_, h.b.kp p.k (fun g hg hs => h.dj g (.inl hs) hg), fun g hg hw => ?_, fun g hg => ?_, h.m, fun g hg => ?_, h.ww, h.k.trans p.k (fun g lt hg => ?_), h.bp.kp p.k (nS _ (.inl rfl)), h.bo.kp p.k (nS _ (.inr (.inl rfl))), h.bz.kp p.k (nS _ (.inr (.inr rfl))), fun g hg => ?_, h.hz⟩
  · rcases p.s g hs with z | z
    · exact h.cs g hg z
    · have := h.rv.c g hg; omega
  · have hlt := h.lt g (.inr hw)
    rcases hg with hg | hg | hg
    · rcases p.s g hg with z | z
      · exact h.dj g (.inl z) hw
      · omega
    · rcases p.b g hg with z | z
      · exact h.dj g (.inr (.inl z)) hw
      · omega
    · exact h.dj g (.inr (.inr hg)) hw
  · rcases hg with hg | hg | hg
    · rcases p.s g hg with z | z
      · exact h.s g (.inl z)
      · exact .inr (by omega)
    · rcases p.b g hg with z | z
      · exact h.s g (.inr (.inl z))
      · exact .inr (by omega)
    · exact h.s g (.inr (.inr hg))
  · rcases p.s g hg with z | z
    · exact h.sw g z
    · exact .inr (by omega)
  · rcases h.sw g hg with z | z
    · exact .inl z
    · omega
  · rcases hg with (hg | hg | hg) | hg
    · rcases p.s g hg with z | z
      · exact h.nz g (.inl (.inl z))
      · omega
    · rcases p.b g hg with z | z
      · exact h.nz g (.inl (.inr (.inl z)))
      · omega
    · exact h.nz g (.inl (.inr (.inr hg)))
    · exact h.nz g (.inr hg)
/-- A call on the reference: new values, of blocks that were the reference's or are new. -/
theorem ST.refP (h : ST Z R Q w0 S0 B0 C0 W0 M0 S B C W M t r aa an ac fa fn fc ma mn mc N pc oc wr) {r' : RNt} {C' : Nat → Prop} {ab : Option Addr} {bn bc : Nat} {fb : Option Addr} {gn gc : Nat} {mb : Option Addr} {nn nc : Nat} (hc : ∀ g, C' g → C g ∨ wr.heap.size ≤ g) (b : Below wr.heap.size wr w') (rv : RefV C' w' r' ab bn bc fb gn gc mb nn nc) : ST Z R Q w0 S0 B0 C0 W0 M0 S B C' W M t r' ab bn bc fb gn gc mb nn nc N pc oc w' := by
  have h' := h.below b
  have sz := h.k.size
  have l0 := h.bp.lt
  have l1 := h.bo.lt
  have l2 := h.bz.lt
  refine ⟨h'.net, rv, fun g hg hs => ?_, h'.b, fun g hg hw => ?_, fun g hg => ?_, h.m, h.sw, h.ww, h'.k, h'.bp, h'.bo, h'.bz, fun g hg => ?_, h.hz⟩
  · rcases hc g hg with z | z
    · exact h.cs g z hs
    · have := h.net.s hs; omega
  · rcases hg with hg | hg | hg
    · exact h.dj g (.inl hg) hw
    · exact h.dj g (.inr (.inl hg)) hw
    · rcases hc g hg with z | z
      · exact h.dj g (.inr (.inr z)) hw
      · have := h.b.lt g hw; omega
  · rcases hg with hg | hg | hg
    · exact h.s g (.inl hg)
    · exact h.s g (.inr (.inl hg))
    · rcases hc g hg with z | z
      · exact h.s g (.inr (.inr z))
      · exact .inr (by omega)
  · rcases hg with (hg | hg | hg) | hg
    · exact h.nz g (.inl (.inl hg))
    · exact h.nz g (.inl (.inr (.inl hg)))
    · rcases hc g hg with z | z
      · exact h.nz g (.inl (.inr (.inr z)))
      · omega
    · exact h.nz g (.inr hg)
/-- A call on the book. -/
theorem ST.bookP (h : ST Z R Q w0 S0 B0 C0 W0 M0 S B C W M t r aa an ac fa fn fc ma mn mc N pc oc wr) {X : Nat → Prop} {N' : Nat} (p : BkP Q N' W M X wr w') (hx : ∀ g, X g → w0.heap.size ≤ g ∧ ¬ (S g ∨ B g ∨ C g) ∧ ¬ (g = Z ∨ g = Z + 1 ∨ g = Z + 1 + 1)) : ∃ W' M', ST Z R Q w0 S0 B0 C0 W0 M0 S B C W' M' t r aa an ac fa fn fc ma mn mc N' pc oc w' ∧ (∀ g, W' g → W g ∨ wr.heap.size ≤ g) ∧ ∀ g, M' g → M g ∨ X g ∨ wr.heap.size ≤ g := by
  obtain ⟨W', M', hb, hw, hm⟩ := p.ex
  have sz := h.k.size
  have l0 := h.bp.lt
  have l1 := h.bo.lt
  have l2 := h.bz.lt
  have nS : ∀ g, g = Z ∨ g = Z + 1 ∨ g = Z + 1 + 1 → ¬ (W g ∨ X g) := fun g hg hs => by
    rcases hs with hs | hs
    · exact h.nz g (.inr (.inl hs)) hg
    · exact (hx g hs).2.2 hg
  have ow : ∀ g, S g ∨ B g ∨ C g → ¬ (W g ∨ X g) := fun g hg hs => by
    rcases hs with hs | hs
    · exact h.dj g hg (.inl hs)
    · exact (hx g hs).2.1 hg
  refine ⟨W', M', ⟨h.net.kp p.k (fun g hg => ow g (.inl hg)) (fun g hg => ow g (.inr (.inl hg))), h.rv.kp p.k (fun g hg => ow g (.inr (.inr hg))), h.cs, hb, fun g hg hq => ?_, h.s, fun g hg => ?_, h.sw, fun g hg => ?_, h.k.trans p.k (fun g lt hg => ?_), h.bp.kp p.k (nS _ (.inl rfl)), h.bo.kp p.k (nS _ (.inr (.inl rfl))), h.bz.kp p.k (nS _ (.inr (.inr rfl))), fun g hg => ?_, h.hz⟩, hw, hm⟩
  · have hlt := h.lt g (.inl hg)
    rcases hq with hq | hq
    · rcases hw g hq with z | z
      · exact h.dj g hg (.inl z)
      · omega
    · rcases hm g hq with z | z | z
      · exact h.dj g hg (.inr z)
      · exact (hx g z).2.1 hg
      · omega
  · rcases hg with hq | hq
    · rcases hw g hq with z | z
      · exact h.m g (.inl z)
      · exact .inr (by omega)
    · rcases hm g hq with z | z | z
      · exact h.m g (.inr z)
      · exact .inr (hx g z).1
      · exact .inr (by omega)
  · rcases hw g hg with z | z
    · exact h.ww g z
    · exact .inr (by omega)
  · rcases hg with hg | hg
    · rcases h.ww g hg with z | z
      · exact .inr z
      · omega
    · have := (hx g hg).1; omega
  · rcases hg with hg | hq | hq
    · exact h.nz g (.inl hg)
    · rcases hw g hq with z | z
      · exact h.nz g (.inr (.inl z))
      · omega
    · rcases hm g hq with z | z | z
      · exact h.nz g (.inr (.inr z))
      · exact (hx g z).2.2
      · omega
/-- A call on both. -/
theorem ST.pairP (h : ST Z R Q w0 S0 B0 C0 W0 M0 S B C W M t r aa an ac fa fn fc ma mn mc N pc oc wr) {t' : Nt} {r' : RNt} {S' B' C' : Nat → Prop} {ab : Option Addr} {bn bc : Nat} {fb : Option Addr} {gn gc : Nat} {mb : Option Addr} {nn nc : Nat} (p : PrPost R S B C wr t' r' S' B' C' ab bn bc fb gn gc mb nn nc w') : ST Z R Q w0 S0 B0 C0 W0 M0 S' B' C' W M t' r' ab bn bc fb gn gc mb nn nc N pc oc w' := by
  have sz := h.k.size
  have nS : ∀ g, g = Z ∨ g = Z + 1 ∨ g = Z + 1 + 1 → ¬ S g := fun g hg hs => h.nz g (.inl (.inl hs)) hg
  have l0 := h.bp.lt
  have l1 := h.bo.lt
  have l2 := h.bz.lt
  have gr : ∀ g, S' g ∨ B' g ∨ C' g → (S g ∨ B g ∨ C g) ∨ wr.heap.size ≤ g := fun g hg => by
    rcases hg with hg | hg | hg
    · exact (p.s g hg).imp (fun z => .inl z) (fun z => z)
    · exact (p.b g hg).imp (fun z => .inr (.inl z)) (fun z => z)
    · exact (p.c g hg).imp (fun z => .inr (.inr z)) (fun z => z)
  refine ⟨p.p.net, p.p.rv, p.p.cs, h.b.kp p.k (fun g hg hs => h.dj g (.inl hs) hg), fun g hg hw => ?_, fun g hg => ?_, h.m, fun g hg => ?_, h.ww, h.k.trans p.k (fun g lt hg => ?_), h.bp.kp p.k (nS _ (.inl rfl)), h.bo.kp p.k (nS _ (.inr (.inl rfl))), h.bz.kp p.k (nS _ (.inr (.inr rfl))), fun g hg => ?_, h.hz⟩
  · have hlt := h.lt g (.inr hw)
    rcases gr g hg with z | z
    · exact h.dj g z hw
    · omega
  · rcases gr g hg with z | z
    · exact h.s g z
    · exact .inr (by omega)
  · rcases p.s g hg with z | z
    · exact h.sw g z
    · exact .inr (by omega)
  · rcases h.sw g hg with z | z
    · exact .inl z
    · omega
  · rcases hg with hg | hg
    · rcases gr g hg with z | z
      · exact h.nz g (.inl z)
      · omega
    · exact h.nz g (.inr hg)
/-- A write into the pair's own block. -/
theorem ST.put (h : ST Z R Q w0 S0 B0 C0 W0 M0 S B C W M t r aa an ac fa fn fc ma mn mc N pc oc wr) {pc' : List Value} (g : wr.grownBy w' (some Z)) (hb : Blk Z 37 pc' w') : ST Z R Q w0 S0 B0 C0 W0 M0 S B C W M t r aa an ac fa fn fc ma mn mc N pc' oc w' := by
  have kk : Kp (fun q => q = Z) wr w' := (Kp.of_grown g).mono (fun q _ e => by injection e with e; exact e.symm)
  have hz := h.hz
  exact ⟨h.net.kp kk (fun q hq e => h.nz q (.inl (.inl hq)) (.inl e)) (fun q hq e => h.nz q (.inl (.inr (.inl hq))) (.inl e)), h.rv.kp kk (fun q hq e => h.nz q (.inl (.inr (.inr hq))) (.inl e)), h.cs, h.b.kp kk (fun q hq e => h.nz q (.inr hq) (.inl e)), h.dj, h.s, h.m, h.sw, h.ww, h.k.trans kk (fun q lt e => by omega), hb, h.bo.kp kk (fun e => by omega), h.bz.kp kk (fun e => by omega), h.nz, h.hz⟩
theorem ST.putR {x1 x2 x3 x4 : Value} (h : ST Z R Q w0 S0 B0 C0 W0 M0 S B C W M t r aa an ac fa fn fc ma mn mc N [.pointer (some ⟨R, 0, none⟩), x1, x2, x3, x4] oc wr) (y1 y2 y3 y4 : Value) : ST Z R Q w0 S0 B0 C0 W0 M0 S B C W M t r aa an ac fa fn fc ma mn mc N [.pointer (some ⟨R, 0, none⟩), y1, y2, y3, y4] oc ((((wr.setCell ⟨Z, 1, none⟩ y1).setCell ⟨Z, 2, none⟩ y2).setCell ⟨Z, 3, none⟩ y3).setCell ⟨Z, 4, none⟩ y4) :=
  h.put (grownBy_trans (grownBy_trans (grownBy_trans (setCell_grown wr Z 1 y1) (setCell_grown _ Z 2 y2)) (setCell_grown _ Z 3 y3)) (setCell_grown _ Z 4 y4)) ((((h.bp.set (i := 1) y1).set (i := 2) y2).set (i := 3) y3).set (i := 4) y4)
end
/-- What a step leaves. -/
structure SP (R Q n N : Nat) (S B C W M : Nat → Prop) (w : World) (t : Nt) (r : RNt) (S' B' C' W' M' : Nat → Prop) (ab : Option Addr) (bn bc : Nat) (fb : Option Addr) (gn gc : Nat) (mb : Option Addr) (nn nc : Nat) (w' : World) : Prop where
  p : PrA R S' B' C' t r ab bn bc fb gn gc mb nn nc w'
  ok : Okp (n + 1) t r
  b : BkA Q (N + 4000000) W' M' w'
  s : ∀ g, S' g ∨ B' g ∨ C' g → (S g ∨ B g ∨ C g) ∨ w.heap.size ≤ g
  m : ∀ g, W' g ∨ M' g → (W g ∨ M g) ∨ w.heap.size ≤ g
  dj : ∀ g, S' g ∨ B' g ∨ C' g → ¬ (W' g ∨ M' g)
  k : Kp (fun g => S g ∨ W g) w w'
def SA (R Q n N : Nat) (S B C W M : Nat → Prop) (w : World) (e : Ending) (w' : World) : Prop := ∃ t r S' B' C' W' M' ab bn bc fb gn gc mb nn nc, e = .returned (.tuple #[.agg (prL R r.now ab bn bc fb gn gc mb nn nc).toArray, .bool true]) ∧ SP R Q n N S B C W M w t r S' B' C' W' M' ab bn bc fb gn gc mb nn nc w'
theorem BkA.more {Q n m : Nat} {W M : Nat → Prop} {w : World} (h : BkA Q n W M w) (hm : n ≤ m) : BkA Q m W M w := by
  obtain ⟨v, V, h1, h2, h3⟩ := h.ex
  exact ⟨⟨v, V, h1, h2, fun k hk => Nat.le_trans (h3 k hk) hm⟩, h.mw⟩
/-- The end of a step: the answer laid into its own block. -/
theorem ST.fin {Z R Q n N N0 : Nat} {w0 : World} {S0 B0 C0 W0 M0 S B C W M : Nat → Prop} {t : Nt} {r : RNt} {aa : Option Addr} {an ac : Nat} {fa : Option Addr} {fn fc : Nat} {ma : Option Addr} {mn mc : Nat} {pc oc : List Value} {wr : World} (h : ST Z R Q w0 S0 B0 C0 W0 M0 S B C W M t r aa an ac fa fn fc ma mn mc N pc oc wr) (e : Rel t r) (ok : Okp (n + 1) t r) (hN : N ≤ N0 + 4000000) (x0 x1 x2 x3 x4 : Value) :
    SP R Q n N0 S0 B0 C0 W0 M0 w0 t r S B C W M aa an ac fa fn fc ma mn mc (((((wr.setCell ⟨Z + 1 + 1, 0, none⟩ x0).setCell ⟨Z + 1 + 1, 1, none⟩ x1).setCell ⟨Z + 1 + 1, 2, none⟩ x2).setCell ⟨Z + 1 + 1, 3, none⟩ x3).setCell ⟨Z + 1 + 1, 4, none⟩ x4) ∧ Blk (Z + 1 + 1) 37 [x0, x1, x2, x3, x4] (((((wr.setCell ⟨Z + 1 + 1, 0, none⟩ x0).setCell ⟨Z + 1 + 1, 1, none⟩ x1).setCell ⟨Z + 1 + 1, 2, none⟩ x2).setCell ⟨Z + 1 + 1, 3, none⟩ x3).setCell ⟨Z + 1 + 1, 4, none⟩ x4) := by
  have g := grownBy_trans (grownBy_trans (grownBy_trans (grownBy_trans (setCell_grown wr (Z + 1 + 1) 0 x0) (setCell_grown _ (Z + 1 + 1) 1 x1)) (setCell_grown _ (Z + 1 + 1) 2 x2)) (setCell_grown _ (Z + 1 + 1) 3 x3)) (setCell_grown _ (Z + 1 + 1) 4 x4)
  have kk := (Kp.of_grown g).mono (N := fun q => q = Z + 1 + 1) (fun q _ e => by injection e with e; exact e.symm)
  have hz := h.hz
  refine ⟨⟨⟨h.net.kp kk (fun q hq e => h.nz q (.inl (.inl hq)) (.inr (.inr e))) (fun q hq e => h.nz q (.inl (.inr (.inl hq))) (.inr (.inr e))), h.rv.kp kk (fun q hq e => h.nz q (.inl (.inr (.inr hq))) (.inr (.inr e))), e, h.cs⟩, ok, (h.b.kp kk (fun q hq e => h.nz q (.inr hq) (.inr (.inr e)))).more hN, h.s, h.m, h.dj, h.k.trans kk (fun q lt e => by omega)⟩, ?_⟩
  exact ((((h.bz.set (i := 0) x0).set (i := 1) x1).set (i := 2) x2).set (i := 3) x3).set (i := 4) x4
end Go.Proofs.Ytcnhcdlbippjoaa
