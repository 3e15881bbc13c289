/-
  Ours: takeOut.
-/
import Derived.Test.YtfdehlfhnlgcjaaDoorTsAdd
namespace Go.Proofs.YtfdehlfhnlgcjaaDoor
open Go.RowKit TqM

namespace TS
/-- The last place emptied and cut off. -/
theorem QG.cut {R bm g e cap : Nat} {S : Nat → Prop} {hp : List (Ky × ByteArray)} {f : Ky → Option Nat} {w : World} (h : QG R bm g (e + 1) cap S hp f w) :
    QG R bm g e cap S (hp.take e) f (((((w.setCell ⟨g, e * 4, none⟩ (.int .i64 0)).setCell ⟨g, e * 4 + 1, none⟩ (.int .i64 0)).setCell ⟨g, e * 4 + 2, none⟩ (.int .i64 0)).setCell ⟨g, e * 4 + 3, none⟩ (.string ⟨#[]⟩)).setCell ⟨R, 0, none⟩ (.slice (some ⟨g, 0, none⟩) e cap)) ∧
    Kp S w (((((w.setCell ⟨g, e * 4, none⟩ (.int .i64 0)).setCell ⟨g, e * 4 + 1, none⟩ (.int .i64 0)).setCell ⟨g, e * 4 + 2, none⟩ (.int .i64 0)).setCell ⟨g, e * 4 + 3, none⟩ (.string ⟨#[]⟩)).setCell ⟨R, 0, none⟩ (.slice (some ⟨g, 0, none⟩) e cap)) := by
  obtain ⟨q, hl⟩ := h
  rcases q.row.open with ⟨e0, _⟩ | ⟨g', n', cap', cur, e0, r⟩
  · cases e0
  injection e0 with e1 e2 e3
  injection e1 with e1
  injection e1 with e1 _ _
  subst e1 e2 e3
  have gR := (q.sv g rfl).2
  obtain ⟨cur2, r2⟩ := r.set4 (⟨0, 0, 0⟩, ⟨#[]⟩) (i := e) (by omega)
  have g2 := set4_grown w g (e * 4) (.int .i64 0) (.int .i64 0) (.int .i64 0) (.string ⟨#[]⟩)
  have B2 : Blk R 57 [.slice (some ⟨g, 0, none⟩) (e + 1) cap, .map (some bm)] _ := q.blk.grown g2 (fun e => gR (by injection e))
  have M2 : MapAt bm f _ := q.mp.same (g2.block bm q.mp.lt (fun e => q.mv (g := g) rfl (by injection e with e; exact e.symm)))
  have z2 := g2.size
  generalize (((w.setCell ⟨g, e * 4, none⟩ (.int .i64 0)).setCell ⟨g, e * 4 + 1, none⟩ (.int .i64 0)).setCell ⟨g, e * 4 + 2, none⟩ (.int .i64 0)).setCell ⟨g, e * 4 + 3, none⟩ (.string ⟨#[]⟩) = w2 at *
  have g3 := setCell_grown w2 R 0 (.slice (some ⟨g, 0, none⟩) e cap)
  have B3 := B2.set (i := 0) (.slice (some ⟨g, 0, none⟩) e cap)
  have b3 : Blk g 66 cur2 (w2.setCell ⟨R, 0, none⟩ (.slice (some ⟨g, 0, none⟩) e cap)) := r2.blk.grown g3 (fun e => gR (by injection e with e; exact e.symm))
  have r3 : RowG g e cap (hp.take e) cur2 (w2.setCell ⟨R, 0, none⟩ (.slice (some ⟨g, 0, none⟩) e cap)) := by
    refine ⟨by simp; omega, b3, Nat.le_of_succ_le r2.le, r2.max, r2.size, ?_⟩
    have := r2.take
    have e5 : cur2.take (e * 4) = (cur2.take ((e + 1) * 4)).take (e * 4) := by rw [List.take_take]; congr 1; omega
    rw [e5, this, hpL_take, List.take_set_of_le (Nat.le_refl _)]
  have k2 : Kp S w w2 := (Kp.of_grown g2).mono (fun x _ e => by injection e with e; subst e; exact (q.sv g rfl).1)
  refine ⟨⟨⟨B3, r3.row, M2.same (g3.block bm M2.lt (fun e => q.mR (by injection e))), fun x hx => Nat.lt_of_lt_of_le (q.s x hx) (Nat.le_trans z2 g3.size), q.sR, q.sm, q.sv⟩, by simp; omega⟩, k2.trans (Kp.of_grown g3) (fun x _ e => by injection e with e; subst e; exact q.sR)⟩

theorem QG.del {R bm g n cap : Nat} {S : Nat → Prop} {hp : List (Ky × ByteArray)} {f f' : Ky → Option Nat} {w w' : World} (h : QG R bm g n cap S hp f w) (m : MapAt bm f' w') (gr : w.grownBy w' (some bm)) : QG R bm g n cap S hp f' w' ∧ Kp S w w' := by
  obtain ⟨q, hl⟩ := h
  refine ⟨⟨⟨q.blk.grown gr (fun e => q.mR (by injection e)), q.row.same (fun x hx => gr.block x (q.s x (q.sv x hx).1) (fun e => q.mv hx (by injection e))), m, fun x hx => Nat.lt_of_lt_of_le (q.s x hx) gr.size, q.sR, q.sm, q.sv⟩, hl⟩, ?_⟩
  exact (Kp.of_grown gr).mono (fun x _ e => by injection e with e; subst e; exact q.sm)

/-- Four cells of a block that is no queue's. -/
theorem out4 {R A : Nat} {S : Nat → Prop} {L : List (Ky × ByteArray)} {w w5 : World} {t : Ky × ByteArray} {x : Ky × ByteArray} (hq : QAt R S L w5) (hb : Blk A 66 (tmL x) w5) (hk : Kp S w w5) (hA : w.heap.size = A) (hS : ∀ g, S g → g < A) :
    Blk A 66 (tmL t) ((((w5.setCell ⟨A, 0, none⟩ (.int .i64 t.1.d)).setCell ⟨A, 1, none⟩ (.int .i64 t.1.l)).setCell ⟨A, 2, none⟩ (.int .i64 t.1.n)).setCell ⟨A, 3, none⟩ (.string t.2)) ∧
    QAt R S L ((((w5.setCell ⟨A, 0, none⟩ (.int .i64 t.1.d)).setCell ⟨A, 1, none⟩ (.int .i64 t.1.l)).setCell ⟨A, 2, none⟩ (.int .i64 t.1.n)).setCell ⟨A, 3, none⟩ (.string t.2)) ∧
    Kp S w ((((w5.setCell ⟨A, 0, none⟩ (.int .i64 t.1.d)).setCell ⟨A, 1, none⟩ (.int .i64 t.1.l)).setCell ⟨A, 2, none⟩ (.int .i64 t.1.n)).setCell ⟨A, 3, none⟩ (.string t.2)) := by
  have g4 := set4_grown w5 A 0 (.int .i64 t.1.d) (.int .i64 t.1.l) (.int .i64 t.1.n) (.string t.2)
  have b4 := (((hb.set (i := 0) (.int .i64 t.1.d)).set (i := 1) (.int .i64 t.1.l)).set (i := 2) (.int .i64 t.1.n)).set (i := 3) (.string t.2)
  refine ⟨b4, hq.kp (Kp.of_grown g4) (fun g hg e => by injection e with e; have := hS g hg; omega), hk.trans (Kp.of_grown g4) (fun g hg e => by injection e with e; omega)⟩

set_option maxRecDepth 20000 in
set_option maxHeartbeats 2000000 in
theorem takeOut_at (R bm g n cap : Nat) (S : Nat → Prop) (hp : List (Ky × ByteArray)) (f : Ky → Option Nat) (w : World) (t : Ky × ByteArray) (i : Nat) (L : List (Ky × ByteArray)) (hn : n ≤ 1000000000000) (h : QG R bm g n cap S hp f w) (hs : HS hp f L) (hi : hp[i]? = some t) :
    Calls Tryd.prog 35 #[.pointer (some ⟨R, 0, none⟩), .int .i64 (i : Int)] w fun e w' => e = .returned (tmV t) ∧ ∃ L', L.Perm (t :: L') ∧ QAt R S L' w' ∧ Kp S w w' := by
  have hin : i < n := by have := (List.getElem?_eq_some_iff.1 hi).1; have := h.2; omega
  obtain ⟨u, hu⟩ : ∃ u, hp[n - 1]? = some u := ⟨hp[n - 1]'(by have := h.2; omega), List.getElem?_eq_getElem _⟩
  have D0 : Hid (QG R bm g n cap S hp f (w.alloc (.cells #[.int .i64 0, .int .i64 0, .int .i64 0, .string ⟨#[]⟩] 66)) ∧ Blk w.heap.size 66 (tmL (⟨0, 0, 0⟩, ⟨#[]⟩)) (w.alloc (.cells #[.int .i64 0, .int .i64 0, .int .i64 0, .string ⟨#[]⟩] 66)) ∧ Kp S w (w.alloc (.cells #[.int .i64 0, .int .i64 0, .int .i64 0, .string ⟨#[]⟩] 66)) ∧ (∀ g, S g → g < w.heap.size)) := ⟨⟨h.1.below (below_alloc _ _), h.2⟩, Blk.new 66 (tmL (⟨0, 0, 0⟩, ⟨#[]⟩)) w, Kp.of_below (below_alloc _ _) _, h.1.s⟩
  have HL : Hid (hp.length = n) := h.2
  have HH : Hid (HS hp f L ∧ hp[i]? = some t ∧ hp[n - 1]? = some u) := ⟨hs, hi, hu⟩
  obtain ⟨e, he⟩ : ∃ e, n - 1 = e := ⟨_, rfl⟩
  have en : n = e + 1 := by omega
  subst en
  have ie : (i : Int) < (e : Int) + 1 := by omega
  clear h hs hi hu he
  go_enter Tryd.func35, Tryd.ntmps35
  go_upto_region 1 with fail
  obtain ⟨A, hA⟩ : ∃ A, w.heap.size = A := ⟨_, rfl⟩
  have HA : Hid (w.heap.size = A) := hA
  rw [hA] at D0 ⊢
  clear hA
  generalize w.alloc (.cells #[.int .i64 0, .int .i64 0, .int .i64 0, .string ⟨#[]⟩] 66) = W at *
  have c0 := D0.out.1.1.blk.cell 0 _ rfl
  obtain ⟨y0, y1, y2, y3⟩ := QG.cells D0.out.1 HH.out.2.1
  have ltR : R < W.heap.size := D0.out.1.1.blk.lt
  have ltg : g < W.heap.size := D0.out.1.1.s g (D0.out.1.1.sv g rfl).1
  go_region
  go_upto_region 2 with fail
  have D1 : Hid (QG R bm g (e + 1) cap S hp f (W.alloc (.cells #[.int .i64 t.1.d, .int .i64 t.1.l, .int .i64 t.1.n, .string t.2] 66)).drew ∧ Blk A 66 (tmL (⟨0, 0, 0⟩, ⟨#[]⟩)) (W.alloc (.cells #[.int .i64 t.1.d, .int .i64 t.1.l, .int .i64 t.1.n, .string t.2] 66)).drew ∧ Blk W.heap.size 66 (tmL t) (W.alloc (.cells #[.int .i64 t.1.d, .int .i64 t.1.l, .int .i64 t.1.n, .string t.2] 66)).drew ∧ Kp S w (W.alloc (.cells #[.int .i64 t.1.d, .int .i64 t.1.l, .int .i64 t.1.n, .string t.2] 66)).drew ∧ (∀ g, S g → g < A) ∧ A < W.heap.size) := by
    have b := Below.drew (below_alloc W (.cells #[.int .i64 t.1.d, .int .i64 t.1.l, .int .i64 t.1.n, .string t.2] 66))
    exact ⟨⟨D0.out.1.1.below b, D0.out.1.2⟩, D0.out.2.1.below b, Blk.new 66 (tmL t) W, D0.out.2.2.1.trans (Kp.of_below b S) (fun _ _ h => h), D0.out.2.2.2, D0.out.2.1.lt⟩
  clear D0 c0 y0 y1 y2 y3 ltR ltg
  generalize (W.alloc (.cells #[.int .i64 t.1.d, .int .i64 t.1.l, .int .i64 t.1.n, .string t.2] 66)).drew = W1 at *
  generalize W.heap.size = G at *
  clear W
  have hu : hp[e]? = some u := HH.out.2.2
  have c0 := D1.out.1.1.blk.cell 0 _ rfl
  obtain ⟨y0, y1, y2, y3⟩ := QG.cells D1.out.1 hu
  clear hu
  go_upto_region 3 with fail
  have D2 : Hid (QG R bm g (e + 1) cap S hp f (W1.alloc (.cells #[.int .i64 u.1.d, .int .i64 u.1.l, .int .i64 u.1.n, .string u.2] 66)) ∧ Blk A 66 (tmL (⟨0, 0, 0⟩, ⟨#[]⟩)) (W1.alloc (.cells #[.int .i64 u.1.d, .int .i64 u.1.l, .int .i64 u.1.n, .string u.2] 66)) ∧ Blk G 66 (tmL t) (W1.alloc (.cells #[.int .i64 u.1.d, .int .i64 u.1.l, .int .i64 u.1.n, .string u.2] 66)) ∧ Blk W1.heap.size 66 (tmL u) (W1.alloc (.cells #[.int .i64 u.1.d, .int .i64 u.1.l, .int .i64 u.1.n, .string u.2] 66)) ∧ Kp S w (W1.alloc (.cells #[.int .i64 u.1.d, .int .i64 u.1.l, .int .i64 u.1.n, .string u.2] 66)) ∧ (∀ g, S g → g < A) ∧ A < G ∧ G < W1.heap.size) := by
    have b := below_alloc W1 (.cells #[.int .i64 u.1.d, .int .i64 u.1.l, .int .i64 u.1.n, .string u.2] 66)
    exact ⟨⟨D1.out.1.1.below b, D1.out.1.2⟩, D1.out.2.1.below b, D1.out.2.2.1.below b, Blk.new 66 (tmL u) W1, D1.out.2.2.2.1.trans (Kp.of_below b S) (fun _ _ h => h), D1.out.2.2.2.2.1, D1.out.2.2.2.2.2, D1.out.2.2.1.lt⟩
  clear D1 c0 y0 y1 y2 y3
  generalize W1.alloc (.cells #[.int .i64 u.1.d, .int .i64 u.1.l, .int .i64 u.1.n, .string u.2] 66) = W2 at *
  generalize W1.heap.size = H at *
  clear W1
  have hu : hp[e]? = some u := HH.out.2.2
  have c0 := D2.out.1.1.blk.cell 0 _ rfl
  have f0 := D2.out.1.1.blk.fz 0
  obtain ⟨y0, y1, y2, y3⟩ := QG.cells D2.out.1 hu
  obtain ⟨cur, bg⟩ : ∃ cur, Blk g 66 cur W2 := by
    rcases D2.out.1.1.row.open with ⟨e0, _⟩ | ⟨g', n', cap', cur, e0, r⟩
    · cases e0
    · injection e0 with e1 e2 e3
      injection e1 with e1
      injection e1 with e1 _ _
      subst e1
      exact ⟨cur, r.blk⟩
  have z0 := bg.fz (e * 4)
  have z1 := bg.fz (e * 4 + 1)
  have z2 := bg.fz (e * 4 + 2)
  have z3 := bg.fz (e * 4 + 3)
  have gR : g ≠ R := (D2.out.1.1.sv g rfl).2
  have Rg : R ≠ g := fun e => gR e.symm
  have hcap : e ≤ cap := by have := D2.out.1.le; omega
  clear hu bg
  go_upto_region 5 with fail
  have D3 : Hid (QG R bm g e cap S (hp.take e) f (((((W2.setCell ⟨g, e * 4, none⟩ (.int .i64 0)).setCell ⟨g, e * 4 + 1, none⟩ (.int .i64 0)).setCell ⟨g, e * 4 + 2, none⟩ (.int .i64 0)).setCell ⟨g, e * 4 + 3, none⟩ (.string ⟨#[]⟩)).setCell ⟨R, 0, none⟩ (.slice (some ⟨g, 0, none⟩) e cap)) ∧ Blk A 66 (tmL (⟨0, 0, 0⟩, ⟨#[]⟩)) (((((W2.setCell ⟨g, e * 4, none⟩ (.int .i64 0)).setCell ⟨g, e * 4 + 1, none⟩ (.int .i64 0)).setCell ⟨g, e * 4 + 2, none⟩ (.int .i64 0)).setCell ⟨g, e * 4 + 3, none⟩ (.string ⟨#[]⟩)).setCell ⟨R, 0, none⟩ (.slice (some ⟨g, 0, none⟩) e cap)) ∧ Blk G 66 (tmL t) (((((W2.setCell ⟨g, e * 4, none⟩ (.int .i64 0)).setCell ⟨g, e * 4 + 1, none⟩ (.int .i64 0)).setCell ⟨g, e * 4 + 2, none⟩ (.int .i64 0)).setCell ⟨g, e * 4 + 3, none⟩ (.string ⟨#[]⟩)).setCell ⟨R, 0, none⟩ (.slice (some ⟨g, 0, none⟩) e cap)) ∧ Blk H 66 (tmL u) (((((W2.setCell ⟨g, e * 4, none⟩ (.int .i64 0)).setCell ⟨g, e * 4 + 1, none⟩ (.int .i64 0)).setCell ⟨g, e * 4 + 2, none⟩ (.int .i64 0)).setCell ⟨g, e * 4 + 3, none⟩ (.string ⟨#[]⟩)).setCell ⟨R, 0, none⟩ (.slice (some ⟨g, 0, none⟩) e cap)) ∧ Kp S w (((((W2.setCell ⟨g, e * 4, none⟩ (.int .i64 0)).setCell ⟨g, e * 4 + 1, none⟩ (.int .i64 0)).setCell ⟨g, e * 4 + 2, none⟩ (.int .i64 0)).setCell ⟨g, e * 4 + 3, none⟩ (.string ⟨#[]⟩)).setCell ⟨R, 0, none⟩ (.slice (some ⟨g, 0, none⟩) e cap)) ∧ (∀ g, S g → g < A) ∧ A < G ∧ G < H) := by
    obtain ⟨q3, k3⟩ := QG.cut D2.out.1
    have d := D2.out
    exact ⟨q3, d.2.1.kp k3 (fun h => by have := d.2.2.2.2.2.1 _ h; omega), d.2.2.1.kp k3 (fun h => by have := d.2.2.2.2.2.1 _ h; omega), d.2.2.2.1.kp k3 (fun h => by have := d.2.2.2.2.2.1 _ h; omega), d.2.2.2.2.1.trans k3 (fun _ _ h => h), d.2.2.2.2.2⟩
  clear D2 c0 f0 y0 y1 y2 y3 z0 z1 z2 z3 cur
  generalize ((((W2.setCell ⟨g, e * 4, none⟩ (.int .i64 0)).setCell ⟨g, e * 4 + 1, none⟩ (.int .i64 0)).setCell ⟨g, e * 4 + 2, none⟩ (.int .i64 0)).setCell ⟨g, e * 4 + 3, none⟩ (.string ⟨#[]⟩)).setCell ⟨R, 0, none⟩ (.slice (some ⟨g, 0, none⟩) e cap) = W3 at *
  clear W2
  have D3' : Hid (QG R bm g e cap S (hp.take e) f W3.drew ∧ Kp S W3 W3.drew) := ⟨⟨D3.out.1.1.below (Below.drew (Below.refl _ _)), D3.out.1.2⟩, Kp.of_below (Below.drew (Below.refl _ _)) _⟩
  have l1 : W3.drew.cell? ⟨R, 1, none⟩ = some (.map (some bm)) := D3.out.1.1.blk.cell 1 _ rfl
  have y0 : W3.drew.cell? ⟨G, 0, none⟩ = some (.int .i64 t.1.d) := D3.out.2.2.1.cell 0 _ rfl
  have y1 : W3.drew.cell? ⟨G, 1, none⟩ = some (.int .i64 t.1.l) := D3.out.2.2.1.cell 1 _ rfl
  have y2 : W3.drew.cell? ⟨G, 2, none⟩ = some (.int .i64 t.1.n) := D3.out.2.2.1.cell 2 _ rfl
  obtain ⟨w4, r1, m4, g4⟩ := MapAt.del (w := W3.drew) D3'.out.1.1.mp t.1 0
  have D4 : Hid (QG R bm g e cap S (hp.take e) (upd f t.1 none) w4 ∧ Blk A 66 (tmL (⟨0, 0, 0⟩, ⟨#[]⟩)) w4 ∧ Blk G 66 (tmL t) w4 ∧ Blk H 66 (tmL u) w4 ∧ Kp S w w4 ∧ (∀ g, S g → g < A) ∧ A < G ∧ G < H) := by
    obtain ⟨q4, k4⟩ := QG.del D3'.out.1 m4 g4
    have k5 : Kp S W3 w4 := D3'.out.2.trans k4 (fun _ _ h => h)
    have d := D3.out
    exact ⟨q4, d.2.1.kp k5 (fun h => by have := d.2.2.2.2.2.1 _ h; omega), d.2.2.1.kp k5 (fun h => by have := d.2.2.2.2.2.1 _ h; omega), d.2.2.2.1.kp k5 (fun h => by have := d.2.2.2.2.2.1 _ h; omega), d.2.2.2.2.1.trans k5 (fun _ _ h => h), d.2.2.2.2.2⟩
  have r2 : (Builtin.delete_ #[51, 24] 0 #[.map (some bm), .agg #[.int .i64 t.1.d, .int .i64 t.1.l, .int .i64 t.1.n]]).run Tryd.prog W3.drew = .ok (.tuple #[]) w4 := r1
  clear D3 D3' m4 g4 r1
  go_region
  clear l1 y0 y1 y2 r2
  by_cases hie : i < e
  · have hie' : (i : Int) < (e : Int) := by omega
    have GG : Hid (∃ L', L.Perm (t :: u :: L') ∧ GS (hp.take e) (upd f t.1 none) i u.1 L') := by
      have hl := HH.out.1.perm.length_eq
      have hlen : hp.length - 1 = e := by
        have h1 := D4.out.1.2
        have h2 := (List.getElem?_eq_some_iff.1 HH.out.2.2).1
        simp only [List.length_take] at h1
        have : hp.length = e + 1 := HL.out
        omega
      have := HH.out.1.take (k := t.1) (v := t.2) (k' := u.1) (v' := u.2) HH.out.2.1 (by omega) (by rw [hlen]; exact HH.out.2.2)
      rw [hlen] at this
      exact this
    refine Exists.elim GG.out (fun L' hL' => ?_)
    have GL : Hid (L.Perm (t :: u :: L') ∧ GS (hp.take e) (upd f t.1 none) i u.1 L') := hL'
    clear hL' GG
    have SE : Hid (∀ w, QG R bm g e cap S (hp.take e) (upd f t.1 none) w → Calls Tryd.prog 52 #[.pointer (some ⟨R, 0, none⟩), .agg #[.int .i64 u.1.d, .int .i64 u.1.l, .int .i64 u.1.n, .string u.2], .int .i64 (i : Int)] w fun e' w' => e' = .returned (.tuple #[]) ∧ ∃ hp' f', QG R bm g e cap S hp' f' w' ∧ HS hp' f' (u :: L') ∧ Kp S w w') := fun w h => settle_at R bm g e cap S _ _ w u i L' (by omega) h GL.out.2
    have x0 := D4.out.2.2.2.1.cell 0 _ rfl
    have x1 := D4.out.2.2.2.1.cell 1 _ rfl
    have x2 := D4.out.2.2.2.1.cell 2 _ rfl
    have x3 := D4.out.2.2.2.1.cell 3 _ rfl
    go_wp2_with fail
    refine (SE.out w4 D4.out.1).mono ?_
    rintro e' w5 ⟨rfl, hp', f', q5, h5, k5⟩
    have D5 : Hid (QAt R S (u :: L') w5 ∧ Blk A 66 (tmL (⟨0, 0, 0⟩, ⟨#[]⟩)) w5 ∧ Blk G 66 (tmL t) w5 ∧ Kp S w w5 ∧ (∀ g, S g → g < A) ∧ A < G ∧ L.Perm (t :: u :: L')) := by
      have d := D4.out
      exact ⟨⟨bm, _, hp', f', q5.1, h5⟩, d.2.1.kp k5 (fun h => by have := d.2.2.2.2.2.1 _ h; omega), d.2.2.1.kp k5 (fun h => by have := d.2.2.2.2.2.1 _ h; omega), d.2.2.2.2.1.trans k5 (fun _ _ h => h), d.2.2.2.2.2.1, d.2.2.2.2.2.2.1, GL.out.1⟩
    clear x0 x1 x2 x3 D4 SE GL q5 h5 k5 HH HL
    have x0 := D5.out.2.2.1.cell 0 _ rfl
    have x1 := D5.out.2.2.1.cell 1 _ rfl
    have x2 := D5.out.2.2.1.cell 2 _ rfl
    have x3 := D5.out.2.2.1.cell 3 _ rfl
    have a0 := D5.out.2.1.cell 0 _ rfl
    have a1 := D5.out.2.1.cell 1 _ rfl
    have a2 := D5.out.2.1.cell 2 _ rfl
    have a3 := D5.out.2.1.cell 3 _ rfl
    have f0 := D5.out.2.1.fz 0
    have f1 := D5.out.2.1.fz 1
    have f2 := D5.out.2.1.fz 2
    have f3 := D5.out.2.1.fz 3
    have FN : Hid (Blk A 66 (tmL t) ((((w5.setCell ⟨A, 0, none⟩ (.int .i64 t.1.d)).setCell ⟨A, 1, none⟩ (.int .i64 t.1.l)).setCell ⟨A, 2, none⟩ (.int .i64 t.1.n)).setCell ⟨A, 3, none⟩ (.string t.2)) ∧ QAt R S (u :: L') ((((w5.setCell ⟨A, 0, none⟩ (.int .i64 t.1.d)).setCell ⟨A, 1, none⟩ (.int .i64 t.1.l)).setCell ⟨A, 2, none⟩ (.int .i64 t.1.n)).setCell ⟨A, 3, none⟩ (.string t.2)) ∧ Kp S w ((((w5.setCell ⟨A, 0, none⟩ (.int .i64 t.1.d)).setCell ⟨A, 1, none⟩ (.int .i64 t.1.l)).setCell ⟨A, 2, none⟩ (.int .i64 t.1.n)).setCell ⟨A, 3, none⟩ (.string t.2)) ∧ L.Perm (t :: (u :: L'))) := by
      have d := D5.out
      have o := out4 (t := t) d.1 d.2.1 d.2.2.2.1 HA.out d.2.2.2.2.1
      exact ⟨o.1, o.2.1, o.2.2, d.2.2.2.2.2.2⟩
    clear D5
    go_wp2_with fail
    generalize (((w5.setCell ⟨A, 0, none⟩ (.int .i64 t.1.d)).setCell ⟨A, 1, none⟩ (.int .i64 t.1.l)).setCell ⟨A, 2, none⟩ (.int .i64 t.1.n)).setCell ⟨A, 3, none⟩ (.string t.2) = w6 at *
    exact ret_blk rfl rfl A _ (tmL t) _ rfl FN.out.1 Tryd.underlying66 rfl (infoM t) ⟨rfl, (u :: L'), FN.out.2.2.2, FN.out.2.1, FN.out.2.2.1⟩
  · have hie0 : i = e := by omega
    have hie' : ¬ ((i : Int) < (e : Int)) := by omega
    have GG : Hid (∃ L', L.Perm (t :: L') ∧ HS (hp.take e) (upd f t.1 none) L') := by
      have hlen : hp.length - 1 = e := by have : hp.length = e + 1 := HL.out; omega
      have := HH.out.1.pop (k := t.1) (v := t.2) HH.out.2.1 (by omega)
      rw [hlen] at this
      exact this
    clear hie0
    refine Exists.elim GG.out (fun L' hL' => ?_)
    have D5 : Hid (QAt R S L' w4 ∧ Blk A 66 (tmL (⟨0, 0, 0⟩, ⟨#[]⟩)) w4 ∧ Blk G 66 (tmL t) w4 ∧ Kp S w w4 ∧ (∀ g, S g → g < A) ∧ A < G ∧ L.Perm (t :: L')) := by
      have d := D4.out
      exact ⟨⟨bm, _, _, _, d.1.1, hL'.2⟩, d.2.1, d.2.2.1, d.2.2.2.2.1, d.2.2.2.2.2.1, d.2.2.2.2.2.2.1, hL'.1⟩
    clear D4 HH HL GG hL'
    have x0 := D5.out.2.2.1.cell 0 _ rfl
    have x1 := D5.out.2.2.1.cell 1 _ rfl
    have x2 := D5.out.2.2.1.cell 2 _ rfl
    have x3 := D5.out.2.2.1.cell 3 _ rfl
    have a0 := D5.out.2.1.cell 0 _ rfl
    have a1 := D5.out.2.1.cell 1 _ rfl
    have a2 := D5.out.2.1.cell 2 _ rfl
    have a3 := D5.out.2.1.cell 3 _ rfl
    have f0 := D5.out.2.1.fz 0
    have f1 := D5.out.2.1.fz 1
    have f2 := D5.out.2.1.fz 2
    have f3 := D5.out.2.1.fz 3
    have FN : Hid (Blk A 66 (tmL t) ((((w4.setCell ⟨A, 0, none⟩ (.int .i64 t.1.d)).setCell ⟨A, 1, none⟩ (.int .i64 t.1.l)).setCell ⟨A, 2, none⟩ (.int .i64 t.1.n)).setCell ⟨A, 3, none⟩ (.string t.2)) ∧ QAt R S L' ((((w4.setCell ⟨A, 0, none⟩ (.int .i64 t.1.d)).setCell ⟨A, 1, none⟩ (.int .i64 t.1.l)).setCell ⟨A, 2, none⟩ (.int .i64 t.1.n)).setCell ⟨A, 3, none⟩ (.string t.2)) ∧ Kp S w ((((w4.setCell ⟨A, 0, none⟩ (.int .i64 t.1.d)).setCell ⟨A, 1, none⟩ (.int .i64 t.1.l)).setCell ⟨A, 2, none⟩ (.int .i64 t.1.n)).setCell ⟨A, 3, none⟩ (.string t.2)) ∧ L.Perm (t :: L')) := by
      have d := D5.out
      have o := out4 (t := t) d.1 d.2.1 d.2.2.2.1 HA.out d.2.2.2.2.1
      exact ⟨o.1, o.2.1, o.2.2, d.2.2.2.2.2.2⟩
    clear D5
    go_wp2_with fail
    generalize (((w4.setCell ⟨A, 0, none⟩ (.int .i64 t.1.d)).setCell ⟨A, 1, none⟩ (.int .i64 t.1.l)).setCell ⟨A, 2, none⟩ (.int .i64 t.1.n)).setCell ⟨A, 3, none⟩ (.string t.2) = w6 at *
    exact ret_blk rfl rfl A _ (tmL t) _ rfl FN.out.1 Tryd.underlying66 rfl (infoM t) ⟨rfl, L', FN.out.2.2.2, FN.out.2.1, FN.out.2.2.1⟩
end TS
end Go.Proofs.YtfdehlfhnlgcjaaDoor
