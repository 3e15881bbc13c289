/-
  Ours: how a network lies in memory, and what its calls write.
-/
import Derived.Test.YtcnhcdlbippjoaaNwKp
namespace Go.Proofs.Ytcnhcdlbippjoaa
open Go.RowKit NwM

def pkL (p : Pk) : List Value := [.bool p.ack, .int .i64 p.id, .slice p.ba p.bn p.bc]
def acL (a : Ac) : List Value := [.int .i64 a.id, .int .i64 a.tk, .slice a.ba a.bn a.bc]
theorem pkL3 (p : Pk) : (pkL p).length = 3 := rfl
theorem acL3 (a : Ac) : (acL a).length = 3 := rfl
theorem pkL_one (p : Pk) : ∀ v ∈ pkL p, v.oneCell' = true := fun v h => by
  simp [pkL] at h
  rcases h with rfl | rfl | rfl <;> rfl
theorem acL_one (p : Ac) : ∀ v ∈ acL p, v.oneCell' = true := fun v h => by
  simp [acL] at h
  rcases h with rfl | rfl | rfl <;> rfl
abbrev RowP (w : World) (v : Value) (ps : List Pk) : Prop := Row3 80 pkL 0 w v ps
abbrev RowA (base : Nat) (w : World) (v : Value) (xs : List Ac) : Prop := Row3 74 acL base w v xs
/-- Bytes that lie in blocks of B. -/
def Bd (B : Nat → Prop) (w : World) (a : Option Addr) (n c : Nat) (bs : List Nat) : Prop := RdB w (.slice a n c) bs ∧ ∀ g, (Value.slice a n c).ownBlock = some g → B g
theorem Bd.nil (B : Nat → Prop) (w : World) : Bd B w none 0 0 [] := ⟨RowV.rd (RowV.nil 5 0 w), fun g h => by simp [Value.ownBlock] at h⟩
theorem Bd.kp {B M : Nat → Prop} {w w' : World} {a : Option Addr} {n c : Nat} {bs : List Nat} (h : Bd B w a n c bs) (k : Kp M w w') (hm : ∀ g, B g → ¬ M g) : Bd B w' a n c bs := ⟨h.1.kp k (fun g e => hm g (h.2 g e)), h.2⟩
theorem Bd.mono {B B' : Nat → Prop} {w : World} {a : Option Addr} {n c : Nat} {bs : List Nat} (h : Bd B w a n c bs) (hb : ∀ g, B g → B' g) : Bd B' w a n c bs := ⟨h.1, fun g e => hb g (h.2 g e)⟩
def ftL (fs : List Nat) : List Value := fs.map (fun f => .int .i32 ((f : Nat) : Int))
/-- The fates that wait: a row of one's own, perhaps without its front. -/
def FtV (w : World) (v : Value) (fs : List Nat) : Prop :=
  (v = .slice none 0 0 ∧ fs = []) ∨ ∃ g o cap cur, v = .slice (some ⟨g, o, none⟩) fs.length cap ∧ Blk g 21 cur w ∧ fs.length ≤ cap ∧ cap ≤ maxLen ∧ (0 < cap → o + cap ≤ cur.length) ∧ (cur.drop o).take fs.length = ftL fs
theorem FtV.heap {w : World} {v : Value} {fs : List Nat} {g : Nat} (h : FtV w v fs) (hg : v.ownBlock = some g) : ∃ cur, w.heap[g]? = some (.cells cur 21 (0, 0)) := by
  rcases h with ⟨rfl, _⟩ | ⟨g', o, cap, cur, rfl, hb, _⟩
  · simp [Value.ownBlock] at hg
  · have : g' = g := by simpa [Value.ownBlock] using hg
    subst this
    exact ⟨_, hb⟩
theorem FtV.kp {M : Nat → Prop} {w w' : World} {v : Value} {fs : List Nat} (h : FtV w v fs) (k : Kp M w w') (hm : ∀ g, v.ownBlock = some g → ¬ M g) : FtV w' v fs := by
  rcases h with h | ⟨g, o, cap, cur, rfl, hb, r⟩
  · exact .inl h
  · exact .inr ⟨g, o, cap, cur, rfl, hb.kp k (hm g rfl), r⟩
theorem FtV.len {w : World} {v : Value} {fs : List Nat} (h : FtV w v fs) : ∃ a c, v = .slice a fs.length c ∧ fs.length ≤ c := by
  rcases h with ⟨rfl, rfl⟩ | ⟨g, o, cap, cur, rfl, hb, h1, _⟩
  · exact ⟨_, _, rfl, Nat.le_refl _⟩
  · exact ⟨_, _, rfl, h1⟩
/-- The first fate; the queue without it. -/
theorem FtV.head {w : World} {v : Value} {f : Nat} {fs : List Nat} (h : FtV w v (f :: fs)) : ∃ g o cap, v = .slice (some ⟨g, o, none⟩) (fs.length + 1) cap ∧ fs.length + 1 ≤ cap ∧ g < w.heap.size ∧ w.cell? ⟨g, o, none⟩ = some (.int .i32 (f : Int)) ∧
    ∀ o', (1 < cap → o' = o + 1) → FtV w (.slice (some ⟨g, o', none⟩) fs.length (cap - 1)) fs := by
  rcases h with ⟨_, h⟩ | ⟨g, o, cap, cur, rfl, hb, h1, h2, h3, h4⟩
  · cases h
  · have hc0 : 0 < cap := by simp at h1; omega
    have hoc := h3 hc0
    obtain ⟨x, hx⟩ : ∃ x, cur[o]? = some x := ⟨cur[o]'(by omega), List.getElem?_eq_getElem _⟩
    have hd : cur.drop o = x :: cur.drop (o + 1) := by
      obtain ⟨hl, e⟩ := List.getElem?_eq_some_iff.1 hx
      rw [← e]
      exact List.drop_eq_getElem_cons hl
    rw [hd] at h4
    simp [ftL] at h4
    refine ⟨g, o, cap, rfl, by simpa using h1, hb.lt, hb.cell _ _ (by rw [hx, h4.1]), fun o' ho' => ?_⟩
    refine .inr ⟨g, o', cap - 1, cur, rfl, hb, by simp at h1; omega, by omega, fun hc => by rw [ho' (by omega)]; omega, ?_⟩
    by_cases hc : 1 < cap
    · rw [ho' hc]; exact h4.2
    · have : fs = [] := List.eq_nil_of_length_eq_zero (by simp at h1; omega)
      subst this
      simp [ftL]

def netL (now : Nat) (fv : Value) (vs : List Value) (bm : Nat) (av : Value) : List Value := .int .i64 ((now : Nat) : Int) :: fv :: (vs ++ [.map (some bm), av])
theorem netL_len (now : Nat) (fv : Value) (vs : List Value) (bm : Nat) (av : Value) (h : vs.length = 10) : (netL now fv vs bm av).length = 14 := by simp [netL, h]

/-- A network at R: its map at bm, S: the blocks that it writes, B: those where bytes lie. -/
structure NetV (R bm : Nat) (S B : Nat → Prop) (ks : List Int) (t : Nt) (fv av : Value) (vs : List Value) (w : World) : Prop where
  blk : Blk R 56 (netL t.now fv vs bm av) w
  lv : vs.length = 10
  lf : t.fl.length = 10
  ft : FtV w fv t.fs
  rows : ∀ i, i < 10 → RowP w (vs.getD i undef) (t.fl.getD i [])
  acc : RowA 0 w av t.ac
  mp : SetAt bm ks w
  bp : ∀ r ∈ t.fl, ∀ p ∈ r, Bd B w p.ba p.bn p.bc p.bs
  bq : ∀ a ∈ t.ac, Bd B w a.ba a.bn a.bc a.bs
  s : ∀ g, S g → g < w.heap.size
  b : ∀ g, B g → g < w.heap.size ∧ ¬ S g
  sR : S R
  sm : S bm
  sf : ∀ g, fv.ownBlock = some g → S g
  sv : ∀ i, i < 10 → ∀ g, (vs.getD i undef).ownBlock = some g → S g
  sa : ∀ g, av.ownBlock = some g → S g
  nd : ∀ i j, i < 10 → j < 10 → i ≠ j → ∀ g, (vs.getD i undef).ownBlock = some g → (vs.getD j undef).ownBlock ≠ some g
  fok : ∀ f ∈ t.fs, isF f
section
variable {R bm : Nat} {S B M : Nat → Prop} {ks : List Int} {t : Nt} {fv av : Value} {vs : List Value} {w w' w2 : World}
theorem NetV.c0 (h : NetV R bm S B ks t fv av vs w) : w.cell? ⟨R, 0, none⟩ = some (.int .i64 ((t.now : Nat) : Int)) := h.blk.cell 0 _ rfl
theorem NetV.c1 (h : NetV R bm S B ks t fv av vs w) : w.cell? ⟨R, 1, none⟩ = some fv := h.blk.cell 1 _ rfl
theorem NetV.cv (h : NetV R bm S B ks t fv av vs w) {i : Nat} (hi : i < 10) : w.cell? ⟨R, 2 + i, none⟩ = some (vs.getD i undef) := by
  refine h.blk.cell (2 + i) _ ?_
  have hl := h.lv
  rw [show 2 + i = i + 1 + 1 from by omega]
  simp only [netL, List.getElem?_cons_succ]
  rw [List.getElem?_append_left (by omega), List.getD_eq_getElem?_getD, List.getElem?_eq_getElem (by omega)]
  rfl
theorem NetV.cm (h : NetV R bm S B ks t fv av vs w) : w.cell? ⟨R, 12, none⟩ = some (.map (some bm)) := by
  refine h.blk.cell 12 _ ?_
  have hl := h.lv
  rw [show 12 = 10 + 1 + 1 from rfl]
  simp only [netL, List.getElem?_cons_succ]
  rw [List.getElem?_append_right (by omega), hl]
  rfl
theorem NetV.ca (h : NetV R bm S B ks t fv av vs w) : w.cell? ⟨R, 13, none⟩ = some av := by
  refine h.blk.cell 13 _ ?_
  have hl := h.lv
  rw [show 13 = 11 + 1 + 1 from rfl]
  simp only [netL, List.getElem?_cons_succ]
  rw [List.getElem?_append_right (by omega), hl]
  rfl
theorem NetV.fz (h : NetV R bm S B ks t fv av vs w) (i : Nat) : w.frozen? ⟨R, i, none⟩ = false := h.blk.fz i
theorem NetV.lt (h : NetV R bm S B ks t fv av vs w) : R < w.heap.size := h.blk.lt
/-! The blocks are apart. -/
theorem NetV.nf (h : NetV R bm S B ks t fv av vs w) {g : Nat} (e : fv.ownBlock = some g) : g ≠ R ∧ g ≠ bm := by
  obtain ⟨cur, hc⟩ := h.ft.heap e
  obtain ⟨es, k, hm, _⟩ := h.mp
  exact ⟨ne_ty hc h.blk (by decide), ne_map hc hm⟩
theorem NetV.nv (h : NetV R bm S B ks t fv av vs w) {i g : Nat} (hi : i < 10) (e : (vs.getD i undef).ownBlock = some g) : g ≠ R ∧ g ≠ bm ∧ fv.ownBlock ≠ some g ∧ av.ownBlock ≠ some g := by
  obtain ⟨_, cur, hc⟩ := own_heap (h.rows i hi) e
  obtain ⟨es, k, hm, _⟩ := h.mp
  refine ⟨ne_ty hc h.blk (by decide), ne_map hc hm, fun q => ?_, fun q => ?_⟩
  · obtain ⟨cur', hc'⟩ := h.ft.heap q
    exact ne_ty hc hc' (by decide) rfl
  · obtain ⟨_, cur', hc'⟩ := own_heap h.acc q
    exact ne_ty hc hc' (by decide) rfl
theorem NetV.na (h : NetV R bm S B ks t fv av vs w) {g : Nat} (e : av.ownBlock = some g) : g ≠ R ∧ g ≠ bm ∧ fv.ownBlock ≠ some g := by
  obtain ⟨_, cur, hc⟩ := own_heap h.acc e
  obtain ⟨es, k, hm, _⟩ := h.mp
  refine ⟨ne_ty hc h.blk (by decide), ne_map hc hm, fun q => ?_⟩
  obtain ⟨cur', hc'⟩ := h.ft.heap q
  exact ne_ty hc hc' (by decide) rfl
theorem NetV.nm (h : NetV R bm S B ks t fv av vs w) : bm ≠ R := fun e => by
  obtain ⟨es, k, hm, _⟩ := h.mp
  exact ne_map h.blk hm e.symm
theorem NetV.kp (h : NetV R bm S B ks t fv av vs w) (k : Kp M w w') (hm : ∀ g, S g → ¬ M g) (hb : ∀ g, B g → ¬ M g) : NetV R bm S B ks t fv av vs w' :=
  ⟨h.blk.kp k (hm R h.sR), h.lv, h.lf, h.ft.kp k (fun g e => hm g (h.sf g e)), fun i hi => own_kp (h.rows i hi) k (fun g e => hm g (h.sv i hi g e)), own_kp h.acc k (fun g e => hm g (h.sa g e)),
   h.mp.same (k.block bm h.mp.lt (hm bm h.sm)), fun r hr p hp => (h.bp r hr p hp).kp k hb, fun a ha => (h.bq a ha).kp k hb, fun g hg => Nat.lt_of_lt_of_le (h.s g hg) k.size, fun g hg => ⟨Nat.lt_of_lt_of_le (h.b g hg).1 k.size, (h.b g hg).2⟩,
   h.sR, h.sm, h.sf, h.sv, h.sa, h.nd, h.fok⟩
theorem NetV.below (h : NetV R bm S B ks t fv av vs w) (hb : Below w.heap.size w w') : NetV R bm S B ks t fv av vs w' := h.kp (Kp.of_below hb (fun _ => False)) (fun _ _ h => h) (fun _ _ h => h)
theorem NetV.drewN (h : NetV R bm S B ks t fv av vs w) (n : Nat) : NetV R bm S B ks t fv av vs (w.drewN n) := h.kp (M := fun _ => False) ⟨rfl, rfl, rfl, Nat.le_refl _, fun _ _ _ => rfl⟩ (fun _ _ h => h) (fun _ _ h => h)
/-- More blocks with bytes. -/
theorem NetV.more (h : NetV R bm S B ks t fv av vs w) {B' : Nat → Prop} (h1 : ∀ g, B g → B' g) (h2 : ∀ g, B' g → g < w.heap.size ∧ ¬ S g) : NetV R bm S B' ks t fv av vs w :=
  ⟨h.blk, h.lv, h.lf, h.ft, h.rows, h.acc, h.mp, fun r hr p hp => (h.bp r hr p hp).mono h1, fun a ha => (h.bq a ha).mono h1, h.s, h2, h.sR, h.sm, h.sf, h.sv, h.sa, h.nd, h.fok⟩
/-- The cell R alone is written. -/
theorem kR (R : Nat) (w : World) (i : Nat) (u : Value) : Kp (fun g => g = R) w (w.setCell ⟨R, i, none⟩ u) := (Kp.of_grown (setCell_grown w R i u)).mono (fun g _ e => by injection e with e; exact e.symm)
/-- Now. -/
theorem NetV.now (h : NetV R bm S B ks t fv av vs w) (n : Nat) : NetV R bm S B ks { t with now := n } fv av vs (w.setCell ⟨R, 0, none⟩ (.int .i64 ((n : Nat) : Int))) := by
  have k := kR R w 0 (.int .i64 ((n : Nat) : Int))
  have hB : ∀ g, B g → ¬ (g = R) := fun g hg e => (h.b g hg).2 (e ▸ h.sR)
  refine ⟨?_, h.lv, h.lf, h.ft.kp k (fun g e => (h.nf e).1), fun i hi => own_kp (h.rows i hi) k (fun g e => (h.nv hi e).1), own_kp h.acc k (fun g e => (h.na e).1), h.mp.same (k.block bm h.mp.lt h.nm), fun r hr p hp => (h.bp r hr p hp).kp k hB, fun a ha => (h.bq a ha).kp k hB,
    fun g hg => Nat.lt_of_lt_of_le (h.s g hg) k.size, fun g hg => ⟨Nat.lt_of_lt_of_le (h.b g hg).1 k.size, (h.b g hg).2⟩, h.sR, h.sm, h.sf, h.sv, h.sa, h.nd, h.fok⟩
  have := h.blk.set (i := 0) (.int .i64 ((n : Nat) : Int))
  simpa [netL] using this
/-- The fates, stored anew: the old row grown or left. -/
theorem NetV.fates (h : NetV R bm S B ks t fv av vs w) {fv' : Value} {fs : List Nat} (k2 : Kp (fun g => fv.ownBlock = some g) w w2) (hf : FtV w2 fv' fs) (hat : ∀ g, fv'.ownBlock = some g → fv.ownBlock = some g ∨ w.heap.size ≤ g) (hfl : ∀ g, fv'.ownBlock = some g → g < w2.heap.size) (hfo : ∀ f ∈ fs, isF f) :
    NetV R bm (fun g => S g ∨ fv'.ownBlock = some g) B ks { t with fs := fs } fv' av vs (w2.setCell ⟨R, 1, none⟩ fv') ∧ Kp S w (w2.setCell ⟨R, 1, none⟩ fv') ∧ w2.cell? ⟨R, 1, none⟩ = some fv ∧ w2.frozen? ⟨R, 1, none⟩ = false := by
  have fR : ¬ (fv.ownBlock = some R) := fun e => (h.nf e).1 rfl
  have B2 := h.blk.kp k2 fR
  have sg : Kp (fun g => g = R) w2 (w2.setCell ⟨R, 1, none⟩ fv') := (Kp.of_grown (setCell_grown w2 R 1 fv')).mono (fun g _ e => by injection e with e; exact e.symm)
  have k3 : Kp (fun g => g = R ∨ fv.ownBlock = some g) w (w2.setCell ⟨R, 1, none⟩ fv') := (k2.mono (fun g _ e => .inr e)).trans sg (fun g _ e => .inl e)
  have kS : Kp S w (w2.setCell ⟨R, 1, none⟩ fv') := k3.mono (fun g _ e => by rcases e with rfl | e; exact h.sR; exact h.sf g e)
  have hB : ∀ g, B g → ¬ (g = R ∨ fv.ownBlock = some g) := fun g hg e => (h.b g hg).2 (by rcases e with rfl | e; exact h.sR; exact h.sf g e)
  have ge : ∀ g, fv'.ownBlock = some g → g ≠ R := fun g e q => by
    rcases hat g e with h1 | h1
    · exact (h.nf h1).1 q
    · have := h.lt; omega
  refine ⟨⟨?_, h.lv, h.lf, hf.kp sg (fun g e => ge g e), fun i hi => own_kp (h.rows i hi) k3 (fun g e => ?_), own_kp h.acc k3 (fun g e => ?_), h.mp.same (k3.block bm h.mp.lt ?_), fun r hr p hp => (h.bp r hr p hp).kp k3 hB, fun a ha => (h.bq a ha).kp k3 hB, ?_, ?_, .inl h.sR, .inl h.sm, fun g e => .inr e, fun i hi g e => .inl (h.sv i hi g e), fun g e => .inl (h.sa g e), h.nd, hfo⟩, kS, B2.cell 1 _ rfl, B2.fz 1⟩
  · have := B2.set (i := 1) fv'
    simpa [netL] using this
  · rintro (q | q)
    · exact (h.nv hi e).1 q
    · exact (h.nv hi e).2.2.1 q
  · rintro (q | q)
    · exact (h.na e).1 q
    · exact (h.na e).2.2 q
  · rintro (q | q)
    · exact h.nm q
    · exact (h.nf q).2 rfl
  · rintro g (hg | hg)
    · exact Nat.lt_of_lt_of_le (h.s g hg) k3.size
    · exact Nat.lt_of_lt_of_le (hfl g hg) sg.size
  · intro g hg
    refine ⟨Nat.lt_of_lt_of_le (h.b g hg).1 k3.size, ?_⟩
    rintro (q | q)
    · exact (h.b g hg).2 q
    · rcases hat g q with h1 | h1
      · exact (h.b g hg).2 (h.sf g h1)
      · have := (h.b g hg).1; omega
theorem getD_set {α : Type} (l : List α) (i j : Nat) (x d : α) (hi : i < l.length) : (l.set i x).getD j d = if i = j then x else l.getD j d := by
  simp only [List.getD_eq_getElem?_getD, List.getElem?_set]
  split
  · rfl
  · rfl
/-- A row of messages, stored anew. -/
theorem NetV.row (h : NetV R bm S B ks t fv av vs w) {i : Nat} {v' : Value} {r : List Pk} (hi : i < 10) (k2 : Kp (fun g => (vs.getD i undef).ownBlock = some g) w w2) (hr : RowP w2 v' r) (hat : ∀ g, v'.ownBlock = some g → (vs.getD i undef).ownBlock = some g ∨ w.heap.size ≤ g) (hbd : ∀ p ∈ r, Bd B w p.ba p.bn p.bc p.bs) :
    NetV R bm (fun g => S g ∨ v'.ownBlock = some g) B ks { t with fl := t.fl.set i r } fv av (vs.set i v') (w2.setCell ⟨R, 2 + i, none⟩ v') ∧ Kp S w (w2.setCell ⟨R, 2 + i, none⟩ v') ∧ w2.cell? ⟨R, 2 + i, none⟩ = some (vs.getD i undef) ∧ w2.frozen? ⟨R, 2 + i, none⟩ = false := by
  have fR : ¬ ((vs.getD i undef).ownBlock = some R) := fun e => (h.nv hi e).1 rfl
  have B2 := h.blk.kp k2 fR
  have sg : Kp (fun g => g = R) w2 (w2.setCell ⟨R, 2 + i, none⟩ v') := (Kp.of_grown (setCell_grown w2 R (2 + i) v')).mono (fun g _ e => by injection e with e; exact e.symm)
  have k3 : Kp (fun g => g = R ∨ (vs.getD i undef).ownBlock = some g) w (w2.setCell ⟨R, 2 + i, none⟩ v') := (k2.mono (fun g _ e => .inr e)).trans sg (fun g _ e => .inl e)
  have kS : Kp S w (w2.setCell ⟨R, 2 + i, none⟩ v') := k3.mono (fun g _ e => by rcases e with rfl | e; exact h.sR; exact h.sv i hi g e)
  have hB : ∀ g, B g → ¬ (g = R ∨ (vs.getD i undef).ownBlock = some g) := fun g hg e => (h.b g hg).2 (by rcases e with rfl | e; exact h.sR; exact h.sv i hi g e)
  have ge : ∀ g, v'.ownBlock = some g → g ≠ R := fun g e q => by
    rcases hat g e with h1 | h1
    · exact (h.nv hi h1).1 q
    · have := h.lt; omega
  have hl := h.lv
  have hl2 := h.lf
  have nw : NetV R bm S B ks t fv av vs w := h
  refine ⟨⟨?_, by simp [hl], by simp [hl2], h.ft.kp k3 (fun g e => ?_), fun j hj => ?_, own_kp h.acc k3 (fun g e => ?_), h.mp.same (k3.block bm h.mp.lt ?_), fun r' hr' p hp => ?_, fun a ha => (h.bq a ha).kp k3 hB, ?_, ?_, .inl h.sR, .inl h.sm, fun g e => .inl (h.sf g e), fun j hj g e => ?_, fun g e => .inl (h.sa g e), fun j k hj hk hjk g e => ?_, h.fok⟩, kS, ?_, B2.fz _⟩
  · have := B2.set (i := 2 + i) v'
    have e : (netL t.now fv vs bm av).set (2 + i) v' = netL t.now fv (vs.set i v') bm av := by
      rw [show 2 + i = i + 1 + 1 from by omega]
      simp only [netL, List.set_cons_succ]
      rw [List.set_append_left _ _ (by omega)]
    rw [e] at this
    exact this
  · rintro (q | q)
    · exact (h.nf e).1 q
    · exact (h.nv hi q).2.2.1 e
  · rw [getD_set _ _ _ _ _ (by omega)]
    show RowP _ _ ((t.fl.set i r).getD j [])
    rw [getD_set _ _ _ _ _ (by omega)]
    by_cases hij : i = j
    · rw [if_pos hij, if_pos hij]
      exact own_kp hr sg ge
    · rw [if_neg hij, if_neg hij]
      refine own_kp (h.rows j hj) k3 (fun g e => ?_)
      rintro (q | q)
      · exact (h.nv hj e).1 q
      · exact h.nd i j hi hj hij g q e
  · rintro (q | q)
    · exact (h.na e).1 q
    · exact (h.nv hi q).2.2.2 e
  · rintro (q | q)
    · exact h.nm q
    · exact (h.nv hi q).2.1 rfl
  · rcases List.mem_or_eq_of_mem_set hr' with hm | rfl
    · exact (h.bp r' hm p hp).kp k3 hB
    · exact (hbd p hp).kp k3 hB
  · rintro g (hg | hg)
    · exact Nat.lt_of_lt_of_le (h.s g hg) k3.size
    · exact Nat.lt_of_lt_of_le (own_lt hr hg) sg.size
  · intro g hg
    refine ⟨Nat.lt_of_lt_of_le (h.b g hg).1 k3.size, ?_⟩
    rintro (q | q)
    · exact (h.b g hg).2 q
    · rcases hat g q with h1 | h1
      · exact (h.b g hg).2 (h.sv i hi g h1)
      · have := (h.b g hg).1; omega
  · rw [getD_set _ _ _ _ _ (by omega)] at e
    by_cases hij : i = j
    · rw [if_pos hij] at e; exact .inr e
    · rw [if_neg hij] at e; exact .inl (h.sv j hj g e)
  · have key : ∀ j, j < 10 → i ≠ j → ∀ g, v'.ownBlock = some g → (vs.getD j undef).ownBlock ≠ some g := fun j hj hij g e1 e2 => by
      rcases hat g e1 with h1 | h1
      · exact h.nd i j hi hj hij g h1 e2
      · have := h.s g (h.sv j hj g e2); omega
    rw [getD_set _ _ _ _ _ (by omega)] at e ⊢
    by_cases hij : i = j
    · rw [if_pos hij] at e
      rw [if_neg (by omega)]
      exact key k hk (by omega) g e
    · rw [if_neg hij] at e
      by_cases hik : i = k
      · rw [if_pos hik]
        intro q
        exact key j hj hij g q e
      · rw [if_neg hik]
        exact h.nd j k hj hk hjk g e
  · have := h.cv hi
    exact cell_kp k2 fR this
/-- A number becomes known. -/
theorem NetV.key (h : NetV R bm S B ks t fv av vs w) {ks' : List Int} (g : w.grownBy w2 (some bm)) (hm : SetAt bm ks' w2) : NetV R bm S B ks' t fv av vs w2 ∧ Kp S w w2 := by
  have k : Kp (fun g => g = bm) w w2 := (Kp.of_grown g).mono (fun g _ e => by injection e with e; exact e.symm)
  have hB : ∀ g, B g → ¬ (g = bm) := fun g hg e => (h.b g hg).2 (e ▸ h.sm)
  exact ⟨⟨h.blk.kp k (fun e => h.nm e.symm), h.lv, h.lf, h.ft.kp k (fun g e => (h.nf e).2), fun i hi => own_kp (h.rows i hi) k (fun g e => (h.nv hi e).2.1), own_kp h.acc k (fun g e => (h.na e).2.1), hm, fun r hr p hp => (h.bp r hr p hp).kp k hB, fun a ha => (h.bq a ha).kp k hB,
    fun g hg => Nat.lt_of_lt_of_le (h.s g hg) k.size, fun g hg => ⟨Nat.lt_of_lt_of_le (h.b g hg).1 k.size, (h.b g hg).2⟩, h.sR, h.sm, h.sf, h.sv, h.sa, h.nd, h.fok⟩, k.mono (fun g _ e => by rw [e]; exact h.sm)⟩
/-- What was accepted, stored anew. -/
theorem NetV.took (h : NetV R bm S B ks t fv av vs w) {av' : Value} {xs : List Ac} (k2 : Kp (fun g => av.ownBlock = some g) w w2) (hr : RowA 0 w2 av' xs) (hat : ∀ g, av'.ownBlock = some g → av.ownBlock = some g ∨ w.heap.size ≤ g) (hbd : ∀ a ∈ xs, Bd B w a.ba a.bn a.bc a.bs) :
    NetV R bm (fun g => S g ∨ av'.ownBlock = some g) B ks { t with ac := xs } fv av' vs (w2.setCell ⟨R, 13, none⟩ av') ∧ Kp S w (w2.setCell ⟨R, 13, none⟩ av') ∧ w2.cell? ⟨R, 13, none⟩ = some av ∧ w2.frozen? ⟨R, 13, none⟩ = false := by
  have fR : ¬ (av.ownBlock = some R) := fun e => (h.na e).1 rfl
  have B2 := h.blk.kp k2 fR
  have sg : Kp (fun g => g = R) w2 (w2.setCell ⟨R, 13, none⟩ av') := (Kp.of_grown (setCell_grown w2 R 13 av')).mono (fun g _ e => by injection e with e; exact e.symm)
  have k3 : Kp (fun g => g = R ∨ av.ownBlock = some g) w (w2.setCell ⟨R, 13, none⟩ av') := (k2.mono (fun g _ e => .inr e)).trans sg (fun g _ e => .inl e)
  have kS : Kp S w (w2.setCell ⟨R, 13, none⟩ av') := k3.mono (fun g _ e => by rcases e with rfl | e; exact h.sR; exact h.sa g e)
  have hB : ∀ g, B g → ¬ (g = R ∨ av.ownBlock = some g) := fun g hg e => (h.b g hg).2 (by rcases e with rfl | e; exact h.sR; exact h.sa g e)
  have ge : ∀ g, av'.ownBlock = some g → g ≠ R := fun g e q => by
    rcases hat g e with h1 | h1
    · exact (h.na h1).1 q
    · have := h.lt; omega
  have hl := h.lv
  refine ⟨⟨?_, h.lv, h.lf, h.ft.kp k3 (fun g e => ?_), fun i hi => own_kp (h.rows i hi) k3 (fun g e => ?_), own_kp hr sg ge, h.mp.same (k3.block bm h.mp.lt ?_), fun r hr p hp => (h.bp r hr p hp).kp k3 hB, fun a ha => (hbd a ha).kp k3 hB, ?_, ?_, .inl h.sR, .inl h.sm, fun g e => .inl (h.sf g e), fun i hi g e => .inl (h.sv i hi g e), fun g e => .inr e, h.nd, h.fok⟩, kS, ?_, B2.fz _⟩
  · have := B2.set (i := 13) av'
    have e : (netL t.now fv vs bm av).set 13 av' = netL t.now fv vs bm av' := by
      rw [show 13 = 11 + 1 + 1 from rfl]
      simp only [netL, List.set_cons_succ]
      rw [List.set_append_right _ _ (by omega), hl]
      rfl
    rw [e] at this
    exact this
  · rintro (q | q)
    · exact (h.nf e).1 q
    · exact (h.na q).2.2 e
  · rintro (q | q)
    · exact (h.nv hi e).1 q
    · exact (h.nv hi e).2.2.2 q
  · rintro (q | q)
    · exact h.nm q
    · exact (h.na q).2.1 rfl
  · rintro g (hg | hg)
    · exact Nat.lt_of_lt_of_le (h.s g hg) k3.size
    · exact Nat.lt_of_lt_of_le (own_lt hr hg) sg.size
  · intro g hg
    refine ⟨Nat.lt_of_lt_of_le (h.b g hg).1 k3.size, ?_⟩
    rintro (q | q)
    · exact (h.b g hg).2 q
    · rcases hat g q with h1 | h1
      · exact (h.b g hg).2 (h.sa g h1)
      · have := (h.b g hg).1; omega
  · exact cell_kp k2 fR h.ca
end

/-- A network at R; what a call leaves of it. -/
def NetAt (R : Nat) (S B : Nat → Prop) (t : Nt) (w : World) : Prop := ∃ bm fv av vs, NetV R bm S B (t.ac.map (·.id)) t fv av vs w
structure NPost (R : Nat) (S B : Nat → Prop) (w : World) (t : Nt) (S' B' : Nat → Prop) (w' : World) : Prop where
  net : NetAt R S' B' t w'
  s : ∀ g, S' g → S g ∨ w.heap.size ≤ g
  b : ∀ g, B' g → B g ∨ w.heap.size ≤ g
  bb : ∀ g, B g → B' g
  k : Kp S w w'
section
variable {R : Nat} {S B M : Nat → Prop} {t : Nt} {w w' : World}
theorem NetAt.kp (h : NetAt R S B t w) (k : Kp M w w') (hm : ∀ g, S g → ¬ M g) (hb : ∀ g, B g → ¬ M g) : NetAt R S B t w' := by
  obtain ⟨bm, fv, av, vs, h⟩ := h
  exact ⟨bm, fv, av, vs, h.kp k hm hb⟩
theorem NetAt.below (h : NetAt R S B t w) (hb : Below w.heap.size w w') : NetAt R S B t w' := h.kp (Kp.of_below hb (fun _ => False)) (fun _ _ h => h) (fun _ _ h => h)
theorem NetAt.s (h : NetAt R S B t w) {g : Nat} (hg : S g) : g < w.heap.size := by
  obtain ⟨bm, fv, av, vs, h⟩ := h
  exact h.s g hg
theorem NetAt.b (h : NetAt R S B t w) {g : Nat} (hg : B g) : g < w.heap.size ∧ ¬ S g := by
  obtain ⟨bm, fv, av, vs, h⟩ := h
  exact h.b g hg
theorem NetAt.lf (h : NetAt R S B t w) : t.fl.length = 10 := by
  obtain ⟨bm, fv, av, vs, h⟩ := h
  exact h.lf
theorem NetAt.sR (h : NetAt R S B t w) : S R := by
  obtain ⟨bm, fv, av, vs, h⟩ := h
  exact h.sR
theorem NetAt.fok (h : NetAt R S B t w) : ∀ f ∈ t.fs, isF f := by
  obtain ⟨bm, fv, av, vs, h⟩ := h
  exact h.fok
theorem NPost.refl (h : NetAt R S B t w) (hb : Below w.heap.size w w') : NPost R S B w t S B w' := ⟨h.below hb, fun _ h => .inl h, fun _ h => .inl h, fun _ h => h, Kp.of_below hb _⟩
theorem NPost.trans {S1 B1 S2 B2 : Nat → Prop} {t1 t2 : Nt} {w1 w2 : World} (h : NPost R S B w t1 S1 B1 w1) (k : NPost R S1 B1 w1 t2 S2 B2 w2) : NPost R S B w t2 S2 B2 w2 :=
  ⟨k.net, fun g hg => (k.s g hg).elim (h.s g) (fun q => .inr (Nat.le_trans h.k.size q)), fun g hg => (k.b g hg).elim (h.b g) (fun q => .inr (Nat.le_trans h.k.size q)), fun g hg => k.bb g (h.bb g hg), h.k.trans k.k (fun g lt hg => (h.s g hg).elim id (fun q => by omega))⟩
/-- What lies apart from the network stays, and stays apart. -/
theorem NPost.out {S' B' : Nat → Prop} {t' : Nt} (h : NPost R S B w t' S' B' w') {g : Nat} (lt : g < w.heap.size) (hg : ¬ S g) : ¬ S' g := fun q => (h.s g q).elim hg (fun q => by omega)
end
end Go.Proofs.Ytcnhcdlbippjoaa
