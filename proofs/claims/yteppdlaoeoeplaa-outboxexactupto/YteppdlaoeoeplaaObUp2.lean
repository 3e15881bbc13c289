/-
  Ours: the statement's UpTo (gen_obf.py).
-/
import Derived.Test.YteppdlaoeoeplaaObStG
import Derived.Test.YteppdlaoeoeplaaObKept2
import Derived.Deep.QuietTactic
import Derived.BigQuiet
namespace Go.Proofs.Yteppdlaoeoeplaa
open Go.RowKit ObM LedM PolM
set_option linter.unusedSimpArgs false

theorem core_filter {p : Int → Bool} : ∀ {xs ys : List En}, xs.map core = ys.map core → (xs.filter (fun x => p x.id)).map core = (ys.filter (fun x => p x.id)).map core
  | [], ys, h => by rw [core_nil h]
  | x :: xs, ys, h => by
    obtain ⟨y, r, rfl, e, h'⟩ := core_cons h
    have ih := core_filter (p := p) h'
    have ei : x.id = y.id := congrArg (fun q => q.1) e
    simp only [List.filter_cons, ei]
    split
    · simp only [List.map_cons, e, ih]
    · exact ih
theorem core_wipe {xs ys : List En} (h : xs.map core = ys.map core) (k : Int) : (wipe xs k).map core = (wipe ys k).map core := core_filter (p := fun i => decide (i ≠ k)) h
theorem core_ins {xs ys : List En} {x y : En} (h : xs.map core = ys.map core) (e : core x = core y) : (ins xs x).map core = (ins ys y).map core := by
  have ei : x.id = y.id := congrArg (fun q => q.1) e
  unfold ins
  simp only [List.map_append, List.map_cons, e, ei]
  rw [core_filter (p := fun i => decide (i < y.id)) h, core_filter (p := fun i => decide (y.id < i)) h]
theorem core_addE {xs ys : List En} (h : xs.map core = ys.map core) (id : Int) : addE xs id = addE ys id := by unfold addE; rw [core_lk h]
theorem core_radd {xs ys xs' ys' : List En} {id now : Int} {bs : List Nat} (h : xs.map core = ys.map core) (p : RAdd xs id now bs xs') (q : RAdd ys id now bs ys') : xs'.map core = ys'.map core := by
  have ea := core_addE h id
  rcases p with ⟨p1, rfl⟩ | ⟨p1, _, _, x, rfl, x1, x2, x3, x4⟩
  · rcases q with ⟨_, rfl⟩ | ⟨q1, _⟩
    · exact h
    · exact absurd (ea.trans q1) p1
  · rcases q with ⟨q1, _⟩ | ⟨_, _, _, y, rfl, y1, y2, y3, y4⟩
    · exact absurd (ea.symm.trans p1) q1
    · exact core_ins h (by unfold core; rw [x1, x2, x3, x4, y1, y2, y3, y4])
theorem radd_lim {K : Nat} {xs xs' : List En} {id now : Int} {bs : List Nat} (h : Lim K xs) (hb : ∀ e ∈ xs, e.bs.length ≤ 1048576) (hl : bs.length ≤ 1048576) (p : RAdd xs id now bs xs') : Lim (K + 1) xs' ∧ ∀ e ∈ xs', e.bs.length ≤ 1048576 := by
  rcases p with ⟨_, rfl⟩ | ⟨_, _, p2, x, rfl, x1, x2, _, x4⟩
  · exact ⟨h.mono (by omega), hb⟩
  · rw [← x1] at p2
    refine ⟨h.ins x2 p2, fun e he => ?_⟩
    rcases (ins_mem (lk_none p2)).1 he with rfl | he
    · rw [x4]; exact hl
    · exact hb e he
theorem after_bs {bo : Int → Int} {now : Int} {xs : List En} (hb : ∀ e ∈ xs, e.bs.length ≤ 1048576) : ∀ e ∈ after bo now xs, e.bs.length ≤ 1048576 := fun e he => by
  obtain ⟨y, hy, rfl⟩ := List.mem_map.1 he
  have := hb y hy
  split
  · exact this
  · exact this
theorem lim_core {K : Nat} {xs ys : List En} (h : Lim K xs) (e : xs.map core = ys.map core) : ∀ y ∈ ys, 0 ≤ y.att ∧ y.att ≤ (K : Int) := fun y hy => by
  obtain ⟨x, hx, ec⟩ := core_mem e hy
  have ea : x.att = y.att := congrArg (fun q => q.2.1) ec
  rw [← ea]; exact h.2 x hx

/-- A box, and the document's beside it. -/
structure Pr (R bm : Nat) (B T : Nat → Prop) (lb : List Int) (L ys : List En) (a : Option Addr) (n c K : Nat) (w : World) : Prop where
  box : BoxV R bm B lb L w
  rf : RL T w a n c ys
  al : L.map core = ys.map core
  lim : Lim K L
  bs : ∀ e ∈ L, e.bs.length ≤ 1048576
  tb : ∀ g, T g → g ≠ bm
section
variable {R bm : Nat} {B T : Nat → Prop} {lb : List Int} {L ys : List En} {a : Option Addr} {n c K : Nat} {w w' : World}
theorem Pr.kp {M : Nat → Prop} (h : Pr R bm B T lb L ys a n c K w) (k : Kp M w w') (hR : ¬ M R) (hm : ¬ M bm) (hB : ∀ g, B g → ¬ M g) (hT : ∀ g, T g → ¬ M g) : Pr R bm B T lb L ys a n c K w' :=
  ⟨h.box.kp k hR hm hB, h.rf.kp k hT, h.al, h.lim, h.bs, h.tb⟩
theorem Pr.below (h : Pr R bm B T lb L ys a n c K w) (b : Below w.heap.size w w') : Pr R bm B T lb L ys a n c K w' := h.kp (Kp.of_below b (fun _ => False)) (fun q => q) (fun q => q) (fun _ _ q => q) (fun _ _ q => q)
theorem Pr.more {K' : Nat} (h : Pr R bm B T lb L ys a n c K w) (hk : K ≤ K') : Pr R bm B T lb L ys a n c K' w := ⟨h.box, h.rf, h.al, h.lim.mono hk, h.bs, h.tb⟩
end
/-- What step answers. -/
def StU (R bm : Nat) (B T : Nat → Prop) (lb : List Int) (K : Nat) (m : Int) (w : World) (e : Ending) (w' : World) : Prop :=
  ∃ a n c T' B' L' ys' Z va vm vc pa pn pc bl, e = .returned (.tuple #[.agg #[.pointer (some ⟨R, 0, none⟩), .slice a n c], .bool true, .agg #[.slice va vm vc, .slice pa pn pc]]) ∧ Pr R bm B' T' lb L' ys' a n c (K + 1) w' ∧ Kp (fun g => g = bm) w w' ∧ (∀ g, B' g → B g ∨ w.heap.size ≤ g) ∧ (∀ g, T' g → T g ∨ w.heap.size ≤ g) ∧ w.heap.size ≤ Z ∧ (∀ g, B' g ∨ T' g → g < Z) ∧ HOut Z m w' bl (.slice va vm vc) ⟨pa, pn, pc⟩ ∧ bl.length ≤ K ∧ pn ≤ K
theorem hout_nil (Z : Nat) (m : Int) (w : World) : HOut Z m w [] (.slice none 0 0) ⟨none, 0, 0⟩ :=
  ⟨RowV.rd (RowV.nil 28 0 w), (fun g hg => by cases hg), (fun i x j b hx => by simp at hx), (fun q x hx => by simp at hx), (fun q x hx => by simp at hx), ⟨[], World.ownsRow_nil _ _ _ _, fun j hj => absurd hj (by show ¬ j < 0; omega)⟩⟩
theorem step_all (R bm : Nat) (B T : Nat → Prop) (lb l : List Int) (s : Value) (L ys : List En) (a : Option Addr) (n c : Nat) (o : Oc) (xa : Option Addr) (xc : Nat) (m : Int) (w : World) (K : Nat) (hs : List Int) (P : Pr R bm B T lb L ys a n c K w) (hlb : boL lb [] = boL l hs) (hK : K ≤ 100000000) (ok : OcOk o) (hp : l.length = 17) (hrs : Rd w s (bkL hs)) (hbh : hs.length ≤ 1152921504606846976)
    (hb : RdB w (.slice xa o.bs.length xc) o.bs) (hbl : o.bs.length ≤ 1048576) (hX : 0 < o.bs.length → ∀ g, (Value.slice xa o.bs.length xc).ownBlock = some g → g ≠ bm) (hm : 0 ≤ m ∧ m < 256) :
    Calls Try.prog 12 #[.agg (polL l s).toArray, .agg #[.pointer (some ⟨R, 0, none⟩), .slice a n c], .agg (ocL o xa xc).toArray, .int .u8 m] w (StU R bm B T lb K m w) := by
  have hL : L.length ≤ 1000000000 := by have := P.lim.1; omega
  have hY : ys.length ≤ 1000000000 := by rw [← core_len P.al]; exact hL
  have hBM := P.box.mp.lt
  have quiet : ∀ {L' ys' : List En} {B' : Nat → Prop} {a' n' c' T' e w'}, OPost R bm B lb w L' B' w' → RL T' w' a' n' c' ys' → (∀ g, T' g → T g ∨ w.heap.size ≤ g) → L'.map core = ys'.map core → Lim (K + 1) L' → (∀ e ∈ L', e.bs.length ≤ 1048576) →
      e = Ending.returned (.tuple #[.agg #[.pointer (some ⟨R, 0, none⟩), .slice a' n' c'], .bool true, .agg #[.slice none 0 0, .slice none 0 0]]) → StU R bm B T lb K m w e w' := fun {L' ys' B' a' n' c' T' e w'} p r t al lm bs he =>
    ⟨a', n', c', T', B', L', ys', w'.heap.size, none, 0, 0, none, 0, 0, [], he, ⟨p.box, r, al, lm, bs, fun g hg q => by rcases t g hg with h1 | h1; exact P.tb g h1 q; omega⟩, p.k, p.b, t, p.k.size, fun g hg => hg.elim (fun h => (p.box.b g h).1) (fun h => r.lt g h), hout_nil _ _ _, by simp, by omega⟩
  by_cases k1 : o.kd = 1
  · refine (step_add R bm B T lb l s L ys a n c o xa xc m w P.box P.rf k1 hY P.tb (core_addE P.al _) ok hb (by omega) hX).mono fun e w' h => ?_
    obtain ⟨a', n', c', T', B', L', ys', he, p, r, t, q1, q2⟩ := h
    obtain ⟨lm, bs⟩ := radd_lim P.lim P.bs hbl q1
    exact quiet p r t (core_radd P.al q1 q2) lm bs he
  by_cases k2 : o.kd = 2
  · refine (step_ack R bm B T lb l s L ys a n c o xa xc m w P.box P.rf k2 hY P.tb (core_lk P.al _)).mono fun e w' h => ?_
    obtain ⟨a', n', c', T', he, p, r, t⟩ := h
    exact quiet p r t (core_wipe P.al _) (P.lim.wipe.mono (by omega)) (fun e he => P.bs e (List.mem_filter.1 he).1) he
  by_cases k3 : o.kd = 3
  · refine (step_due R bm B T lb l s L ys a n c o xa xc m w P.box P.rf k3 hs hY hL P.tb ok hp hrs hbh (fun e he => by have := P.lim.2 e he; omega) (fun e he => by have := lim_core P.lim P.al e he; omega) P.al (fun e he => by have := P.bs e he; omega) hm).mono fun e w' h => ?_
    obtain ⟨a', n', c', T', Z, va, vm, vc, pa, pn, pc, bl, he, p, r, t, hZ, tz, ho, h1, h2⟩ := h
    rw [hlb] at p
    refine ⟨a', n', c', T', B, _, _, Z, va, vm, vc, pa, pn, pc, bl, he, ⟨p.box, r, core_after o.now P.al, P.lim.after, after_bs P.bs, fun g hg q => ?_⟩, p.k, p.b, t, hZ, fun g hg => hg.elim (fun h => Nat.lt_of_lt_of_le (P.box.b g h).1 hZ) (tz g), ho, by have := P.lim.1; omega, by have := P.lim.1; omega⟩
    rcases t g hg with h1 | h1
    · exact P.tb g h1 q
    · omega
  by_cases k4 : o.kd = 4
  · refine (step_pend R bm B T lb l s L ys a n c o xa xc m w P.box P.rf k4 hL P.al (fun e he => by have := P.bs e he; omega) hm).mono fun e w' h => ?_
    obtain ⟨Z, va, vm, vc, bl, he, p, r, hZ, ho, h1⟩ := h
    exact ⟨a, n, c, T, B, L, ys, Z, va, vm, vc, none, 0, 0, bl, he, ⟨p.box, r, P.al, P.lim.mono (by omega), P.bs, P.tb⟩, p.k, p.b, fun _ q => .inl q, hZ, fun g hg => hg.elim (fun h => Nat.lt_of_lt_of_le (P.box.b g h).1 hZ) (fun h => Nat.lt_of_lt_of_le (P.rf.lt g h) hZ), ho, by have := P.lim.1; omega, by omega⟩
  · refine (step_none R bm B T lb l s L ys a n c o xa xc m w P.box P.rf k1 k2 k3 k4).mono fun e w' h => ?_
    obtain ⟨a', n', c', T', he, p, r, t⟩ := h
    exact quiet p r t P.al (P.lim.mono (by omega)) P.bs he
end Go.Proofs.Yteppdlaoeoeplaa

namespace Go.Proofs.Yteppdlaoeoeplaa
open Go.RowKit ObM LedM PolM
set_option linter.unusedSimpArgs false

/-- Blocks of UpTo's own, apart from one another. -/
structure UF (Wb W0 P0 P1 P2 P5 R1 bm1 R2 bm2 : Nat) : Prop where
  le : Wb ≤ P1 ∧ Wb ≤ P2 ∧ Wb ≤ P5 ∧ Wb ≤ bm1 ∧ Wb ≤ bm2 ∧ Wb ≤ W0
  lt : P0 < W0 ∧ P1 < W0 ∧ P2 < W0 ∧ P5 < W0 ∧ R1 < W0 ∧ bm1 < W0 ∧ R2 < W0 ∧ bm2 < W0
  p0 : P0 ≠ P1 ∧ P0 ≠ P2 ∧ P0 ≠ P5 ∧ P0 ≠ bm1 ∧ P0 ≠ bm2
  pp : P1 ≠ P2 ∧ P1 ≠ P5 ∧ P2 ≠ P5
  p1 : P1 ≠ bm1 ∧ P1 ≠ bm2 ∧ P2 ≠ bm1 ∧ P2 ≠ bm2 ∧ P5 ≠ bm1 ∧ P5 ≠ bm2
  r1 : R1 ≠ P1 ∧ R1 ≠ P2 ∧ R1 ≠ P5 ∧ R1 ≠ bm2
  r2 : R2 ≠ P1 ∧ R2 ≠ P2 ∧ R2 ≠ P5 ∧ R2 ≠ bm1
  bb : bm1 ≠ bm2
theorem UF.swap {Wb W0 P0 P1 P2 P5 R1 bm1 R2 bm2 : Nat} (h : UF Wb W0 P0 P1 P2 P5 R1 bm1 R2 bm2) : UF Wb W0 P0 P2 P1 P5 R2 bm2 R1 bm1 := by
  obtain ⟨⟨a1, a2, a3, a4, a5, a6⟩, ⟨l0, l1, l2, l5, lr1, lb1, lr2, lb2⟩, ⟨z1, z2, z5, zb1, zb2⟩, ⟨q12, q15, q25⟩, ⟨y1, y2, y3, y4, y5, y6⟩, ⟨r11, r12, r15, r1b⟩, ⟨r21, r22, r25, r2b⟩, bb⟩ := h
  exact ⟨⟨a2, a1, a3, a5, a4, a6⟩, ⟨l0, l2, l1, l5, lr2, lb2, lr1, lb1⟩, ⟨z2, z1, z5, zb2, zb1⟩, ⟨q12.symm, q25, q15⟩, ⟨y4, y3, y2, y1, y6, y5⟩, ⟨r22, r21, r25, r2b⟩, ⟨r12, r11, r15, r1b⟩, bb.symm⟩
/-- Blocks that others hold. -/
def UFr (B1 T1 B2 T2 : Nat → Prop) (hd : List Hd) (ls : List By) (g : Nat) : Prop := (B1 g ∨ T1 g) ∨ (B2 g ∨ T2 g) ∨ (∃ h ∈ hd, h.b.v.ownBlock = some g) ∨ ∃ b ∈ ls, b.v.ownBlock = some g
structure UI (Wb W0 P0 P1 P2 P5 : Nat) (l : List Int) (s : Value) (lb : List Int) (R1 bm1 : Nat) (B1 T1 : Nat → Prop) (L1 ys1 : List En) (a1 : Option Addr) (n1 c1 : Nat) (R2 bm2 : Nat) (B2 T2 : Nat → Prop) (L2 ys2 : List En) (a2 : Option Addr) (n2 c2 K : Nat) (va : Value) (hd : List Hd) (vl : Value) (ls : List By) (wr : World) : Prop where
  p0 : Blk P0 24 (polL l s) wr
  p1 : Blk P1 39 [.pointer (some ⟨R1, 0, none⟩), .slice a1 n1 c1] wr
  p2 : Blk P2 39 [.pointer (some ⟨R2, 0, none⟩), .slice a2 n2 c2] wr
  p5 : ∃ u v, Blk P5 45 [u, v] wr
  one : Pr R1 bm1 B1 T1 lb L1 ys1 a1 n1 c1 K wr
  two : Pr R2 bm2 B2 T2 lb L2 ys2 a2 n2 c2 K wr
  fr : ∀ g, UFr B1 T1 B2 T2 hd ls g → W0 ≤ g ∧ g < wr.heap.size ∧ va.ownBlock ≠ some g ∧ vl.ownBlock ≠ some g
  all : wr.ownsRow W0 74 2 va hd.length (hd.flatMap hdL)
  mks : ∀ h ∈ hd, Mk wr h
  lst : wr.ownsRow W0 43 1 vl ls.length (ls.map By.v)
  kls : ∀ b ∈ ls, Kl W0 wr b ∧ b.bn ≤ 1000000000
  lpw : ls.Pairwise (fun p q => ∀ g, p.v.ownBlock = some g → q.v.ownBlock ≠ some g)
  sz : W0 ≤ wr.heap.size
section
variable {Wb W0 P0 P1 P2 P5 : Nat} {l : List Int} {s : Value} {lb : List Int} {R1 bm1 : Nat} {B1 T1 : Nat → Prop} {L1 ys1 : List En} {a1 : Option Addr} {n1 c1 : Nat} {R2 bm2 : Nat} {B2 T2 : Nat → Prop} {L2 ys2 : List En} {a2 : Option Addr} {n2 c2 K : Nat} {va : Value} {hd : List Hd} {vl : Value} {ls : List By} {wr w' : World}
theorem UI.swap (h : UI Wb W0 P0 P1 P2 P5 l s lb R1 bm1 B1 T1 L1 ys1 a1 n1 c1 R2 bm2 B2 T2 L2 ys2 a2 n2 c2 K va hd vl ls wr) : UI Wb W0 P0 P2 P1 P5 l s lb R2 bm2 B2 T2 L2 ys2 a2 n2 c2 R1 bm1 B1 T1 L1 ys1 a1 n1 c1 K va hd vl ls wr :=
  ⟨h.p0, h.p2, h.p1, h.p5, h.two, h.one, fun g q => h.fr g (by
    unfold UFr at q ⊢
    rcases q with q | q | q | q
    · exact .inr (.inl q)
    · exact .inl q
    · exact .inr (.inr (.inl q))
    · exact .inr (.inr (.inr q))), h.all, h.mks, h.lst, h.kls, h.lpw, h.sz⟩
theorem UI.below (h : UI Wb W0 P0 P1 P2 P5 l s lb R1 bm1 B1 T1 L1 ys1 a1 n1 c1 R2 bm2 B2 T2 L2 ys2 a2 n2 c2 K va hd vl ls wr) (b : Below wr.heap.size wr w') : UI Wb W0 P0 P1 P2 P5 l s lb R1 bm1 B1 T1 L1 ys1 a1 n1 c1 R2 bm2 B2 T2 L2 ys2 a2 n2 c2 K va hd vl ls w' := by
  have k := Kp.of_below b (fun _ => False)
  obtain ⟨u, v, q5⟩ := h.p5
  exact ⟨h.p0.below b, h.p1.below b, h.p2.below b, ⟨u, v, q5.below b⟩, h.one.below b, h.two.below b, fun g q => by have := h.fr g q; exact ⟨this.1, Nat.lt_of_lt_of_le this.2.1 b.size, this.2.2⟩, own_kp h.all k (fun _ _ q => q), fun x hx => (h.mks x hx).kp k (fun _ _ q => q), own_kp h.lst k (fun _ _ q => q), fun x hx => ⟨(h.kls x hx).1.kp k (fun _ _ q => q), (h.kls x hx).2⟩, h.lpw, Nat.le_trans h.sz b.size⟩
/-- A step on the first box. -/
theorem UI.stepped {B T : Nat → Prop} {L ys : List En} {a : Option Addr} {n c : Nat} {wb wc wd : World} {u v : Value} (F : UF Wb W0 P0 P1 P2 P5 R1 bm1 R2 bm2) (h : UI Wb W0 P0 P1 P2 P5 l s lb R1 bm1 B1 T1 L1 ys1 a1 n1 c1 R2 bm2 B2 T2 L2 ys2 a2 n2 c2 K va hd vl ls wr) (P : Pr R1 bm1 B T lb L ys a n c (K + 1) wb) (k : Kp (fun g => g = bm1) wr wb) (hb : ∀ g, B g → B1 g ∨ wr.heap.size ≤ g) (ht : ∀ g, T g → T1 g ∨ wr.heap.size ≤ g)
    (x1 : Blk P1 39 [.pointer (some ⟨R1, 0, none⟩), .slice a n c] wc) (g1 : wb.grownBy wc (some P1)) (x5 : Blk P5 45 [u, v] wd) (g5 : wc.grownBy wd (some P5)) : UI Wb W0 P0 P1 P2 P5 l s lb R1 bm1 B T L ys a n c R2 bm2 B2 T2 L2 ys2 a2 n2 c2 (K + 1) va hd vl ls wd := by
  obtain ⟨-, ⟨l0, l1, l2, l5, lr1, lb1, lr2, lb2⟩, ⟨z1, z2, z5, zb1, zb2⟩, ⟨q12, q15, q25⟩, ⟨y1, y2, y3, y4, y5, y6⟩, ⟨r11, r12, r15, r1b⟩, ⟨r21, r22, r25, r2b⟩, bb⟩ := F
  have e0 : ¬ (P0 = bm1 ∨ P0 = P1 ∨ P0 = P5) := fun q => q.elim zb1 (fun q => q.elim z1 z5)
  have e2 : ¬ (P2 = bm1 ∨ P2 = P1 ∨ P2 = P5) := fun q => q.elim y3 (fun q => q.elim q12.symm q25)
  have eR : ¬ (R2 = bm1 ∨ R2 = P1 ∨ R2 = P5) := fun q => q.elim r2b (fun q => q.elim r21 r25)
  have eM : ¬ (bm2 = bm1 ∨ bm2 = P1 ∨ bm2 = P5) := fun q => q.elim bb.symm (fun q => q.elim y2.symm y6.symm)
  have o1 : ¬ (R1 = P1 ∨ R1 = P5) := fun q => q.elim r11 r15
  have o2 : ¬ (bm1 = P1 ∨ bm1 = P5) := fun q => q.elim y1.symm y5.symm
  have e15 : P5 ≠ P1 := q15.symm
  clear z1 z2 z5 zb1 zb2 q12 q15 q25 y1 y2 y3 y4 y5 y6 r11 r12 r15 r1b r21 r22 r25 r2b bb
  have kd : Kp (fun g => g = P1 ∨ g = P5) wb wd := ((Kp.of_grown g1).mono (N := fun g => g = P1 ∨ g = P5) (fun g _ e => by injection e with e; exact .inl e.symm)).trans (Kp.of_grown g5) (fun g _ e => by injection e with e; exact .inr e.symm)
  have ka : Kp (fun g => g = bm1 ∨ g = P1 ∨ g = P5) wr wd := (k.mono (N := fun g => g = bm1 ∨ g = P1 ∨ g = P5) (fun g _ e => .inl e)).trans kd (fun g _ e => .inr e)
  have hi : ∀ g, W0 ≤ g → ¬ (g = bm1 ∨ g = P1 ∨ g = P5) := fun g hg q => by omega
  have sz := h.sz
  have sb : wb.heap.size ≤ wd.heap.size := kd.size
  have old : ∀ g, UFr B1 T1 B2 T2 hd ls g → ¬ (g = bm1 ∨ g = P1 ∨ g = P5) := fun g q => hi g (h.fr g q).1
  have bt : ∀ g, B g ∨ T g → W0 ≤ g ∧ g < wd.heap.size ∧ va.ownBlock ≠ some g ∧ vl.ownBlock ≠ some g := fun g q => by
    have lt : g < wb.heap.size := q.elim (fun q => (P.box.b g q).1) (fun q => P.rf.lt g q)
    have o : (B1 g ∨ T1 g) ∨ wr.heap.size ≤ g := q.elim (fun q => (hb g q).imp .inl id) (fun q => (ht g q).imp .inr id)
    rcases o with o | o
    · have := h.fr g (.inl o)
      exact ⟨this.1, by omega, this.2.2⟩
    · exact ⟨by omega, by omega, fun e => by have := own_lt h.all e; omega, fun e => by have := own_lt h.lst e; omega⟩
  refine ⟨h.p0.kp ka e0, x1.grown g5 (fun e => by injection e with e; exact e15 e), h.p2.kp ka e2, ⟨u, v, x5⟩, P.kp kd o1 o2 (fun g q e => by have := bt g (.inl q); omega) (fun g q e => by have := bt g (.inr q); omega), (h.two.kp ka eR eM (fun g q => old g (.inr (.inl (.inl q)))) (fun g q => old g (.inr (.inl (.inr q))))).more (by omega), fun g q => ?_, own_kp h.all ka (fun g hg => hi g (own_heap h.all hg).1), fun x hx => (h.mks x hx).kp ka (fun g hg => old g (.inr (.inr (.inl ⟨x, hx, hg⟩)))), own_kp h.lst ka (fun g hg => hi g (own_heap h.lst hg).1), fun x hx => ⟨(h.kls x hx).1.kp ka (fun g hg => old g (.inr (.inr (.inr ⟨x, hx, hg⟩)))), (h.kls x hx).2⟩, h.lpw, Nat.le_trans sz ka.size⟩
  rcases q with q | q
  · exact bt g q
  · have := h.fr g (.inr q)
    exact ⟨this.1, Nat.lt_of_lt_of_le this.2.1 ka.size, this.2.2⟩
/-- What was handed out is held. -/
theorem UI.held {Z : Nat} {m : Int} {bl : List By} {v va' : Value} {b : By} (h : UI Wb W0 P0 P1 P2 P5 l s lb R1 bm1 B1 T1 L1 ys1 a1 n1 c1 R2 bm2 B2 T2 L2 ys2 a2 n2 c2 K va hd vl ls wr) (F : UF Wb W0 P0 P1 P2 P5 R1 bm1 R2 bm2) (o : HOut Z m wr bl v b) (hZ : W0 ≤ Z) (hva : ∀ g, va.ownBlock = some g → g < Z) (hvl : ∀ g, vl.ownBlock = some g → g < Z)
    (row : w'.ownsRow W0 74 2 va' (hd ++ hdOf m bl bl.length).length ((hd ++ hdOf m bl bl.length).flatMap hdL)) (k : Kp (fun g => va.ownBlock = some g) wr w') (ha : ∀ g, va'.ownBlock = some g → va.ownBlock = some g ∨ wr.heap.size ≤ g) :
    UI Wb W0 P0 P1 P2 P5 l s lb R1 bm1 B1 T1 L1 ys1 a1 n1 c1 R2 bm2 B2 T2 L2 ys2 a2 n2 c2 K va' (hd ++ hdOf m bl bl.length) vl ls w' ∧ Kl Z w' b := by
  obtain ⟨l0, l1, l2, l5, lr1, lb1, lr2, lb2⟩ := F.lt
  have lo : ∀ g, g < W0 → ¬ (va.ownBlock = some g) := fun g hg e => by have := (own_heap h.all e).1; omega
  have old : ∀ g, UFr B1 T1 B2 T2 hd ls g → ¬ (va.ownBlock = some g) := fun g q => (h.fr g q).2.2.1
  obtain ⟨u5, v5, q5⟩ := h.p5
  have hm : ∀ x ∈ hdOf m bl bl.length, ∃ (q : Nat) (y : By), bl[q]? = some y ∧ x = ⟨y, mkB m q⟩ := fun x hx => by
    unfold hdOf at hx
    obtain ⟨i, hi, rfl⟩ := List.mem_map.1 hx
    have hi' := List.mem_range.1 hi
    exact ⟨i, bl[i], List.getElem?_eq_getElem hi', by rw [List.getD_eq_getElem?_getD, List.getElem?_eq_getElem hi']; rfl⟩
  refine ⟨⟨h.p0.kp k (lo _ (by omega)), h.p1.kp k (lo _ (by omega)), h.p2.kp k (lo _ (by omega)), ⟨u5, v5, q5.kp k (lo _ (by omega))⟩, h.one.kp k (lo _ (by omega)) (lo _ (by omega)) (fun g q => old g (.inl (.inl q))) (fun g q => old g (.inl (.inr q))), h.two.kp k (lo _ (by omega)) (lo _ (by omega)) (fun g q => old g (.inr (.inl (.inl q)))) (fun g q => old g (.inr (.inl (.inr q)))), fun g q => ?_, row, fun x hx => ?_, own_kp h.lst k (fun g hg e => ?_), fun x hx => ⟨(h.kls x hx).1.kp k (fun g hg => old g (.inr (.inr (.inr ⟨x, hx, hg⟩)))), (h.kls x hx).2⟩, h.lpw, Nat.le_trans h.sz k.size⟩, o.kl.kp k (fun g hg e => ?_)⟩
  · have fresh : W0 ≤ g → g < wr.heap.size → va.ownBlock ≠ some g → va'.ownBlock ≠ some g := fun _ h2 h3 e => by
      rcases ha g e with h4 | h4
      · exact h3 h4
      · omega
    have keep : UFr B1 T1 B2 T2 hd ls g → W0 ≤ g ∧ g < w'.heap.size ∧ va'.ownBlock ≠ some g ∧ vl.ownBlock ≠ some g := fun q => by
      have := h.fr g q
      exact ⟨this.1, Nat.lt_of_lt_of_le this.2.1 k.size, fresh this.1 this.2.1 this.2.2.1, this.2.2.2⟩
    rcases q with q | q | ⟨x, hx, e⟩ | q
    · exact keep (.inl q)
    · exact keep (.inr (.inl q))
    · rcases List.mem_append.1 hx with hx | hx
      · exact keep (.inr (.inr (.inl ⟨x, hx, e⟩)))
      · obtain ⟨q, y, hy, rfl⟩ := hm x hx
        have bz := o.bz q y hy g e
        exact ⟨by omega, Nat.lt_of_lt_of_le bz.2 k.size, fresh (by omega) bz.2 (fun e' => by have := hva g e'; omega), fun e' => by have := hvl g e'; omega⟩
    · exact keep (.inr (.inr (.inr q)))
  · rcases List.mem_append.1 hx with hx | hx
    · exact (h.mks x hx).kp k (fun g hg => old g (.inr (.inr (.inl ⟨x, hx, hg⟩))))
    · obtain ⟨q, y, hy, rfl⟩ := hm x hx
      exact (o.mks q y hy).kp k (fun g hg e => by have := hva g e; have := o.bz q y hy g hg; omega)
  · obtain ⟨_, _, h1⟩ := own_heap h.lst hg
    obtain ⟨_, _, h2⟩ := own_heap h.all e
    exact ne_ty h1 h2 (by decide) rfl
  · obtain ⟨vs, r, _⟩ := o.kl
    have := (own_heap r hg).1
    have := hva g e
    omega
/-- A list more. -/
theorem UI.listed {Z : Nat} {vl' : Value} {b : By} (h : UI Wb W0 P0 P1 P2 P5 l s lb R1 bm1 B1 T1 L1 ys1 a1 n1 c1 R2 bm2 B2 T2 L2 ys2 a2 n2 c2 K va hd vl ls wr) (F : UF Wb W0 P0 P1 P2 P5 R1 bm1 R2 bm2) (kl : Kl Z wr b) (hn : b.bn ≤ 1000000000) (hZ : W0 ≤ Z) (hvl : ∀ g, vl.ownBlock = some g → g < Z) (hls : ∀ x ∈ ls, ∀ g, x.v.ownBlock = some g → g < Z)
    (row : w'.ownsRow W0 43 1 vl' (ls.length + 1) (ls.map By.v ++ [b.v])) (g : wr.grownBy w' vl.ownBlock) (ha : ∀ g, vl'.ownBlock = some g → vl.ownBlock = some g ∨ wr.heap.size ≤ g) (hab : ∀ g, b.v.ownBlock = some g → va.ownBlock ≠ some g) :
    UI Wb W0 P0 P1 P2 P5 l s lb R1 bm1 B1 T1 L1 ys1 a1 n1 c1 R2 bm2 B2 T2 L2 ys2 a2 n2 c2 K va hd vl' (ls ++ [b]) w' := by
  obtain ⟨l0, l1, l2, l5, lr1, lb1, lr2, lb2⟩ := F.lt
  have k := Kp.of_grown g
  have lo : ∀ g, g < W0 → ¬ (vl.ownBlock = some g) := fun g hg e => by have := (own_heap h.lst e).1; omega
  have old : ∀ g, UFr B1 T1 B2 T2 hd ls g → ¬ (vl.ownBlock = some g) := fun g q => (h.fr g q).2.2.2
  obtain ⟨u5, v5, q5⟩ := h.p5
  have bz : ∀ g, b.v.ownBlock = some g → Z ≤ g ∧ g < wr.heap.size := fun g hg => by
    obtain ⟨vs, r, _⟩ := kl
    exact ⟨(own_heap r hg).1, own_lt r hg⟩
  refine ⟨h.p0.kp k (lo _ (by omega)), h.p1.kp k (lo _ (by omega)), h.p2.kp k (lo _ (by omega)), ⟨u5, v5, q5.kp k (lo _ (by omega))⟩, h.one.kp k (lo _ (by omega)) (lo _ (by omega)) (fun g q => old g (.inl (.inl q))) (fun g q => old g (.inl (.inr q))), h.two.kp k (lo _ (by omega)) (lo _ (by omega)) (fun g q => old g (.inr (.inl (.inl q)))) (fun g q => old g (.inr (.inl (.inr q)))), fun x q => ?_, own_kp h.all k (fun x hx e => ?_), fun x hx => (h.mks x hx).kp k (fun y hy => old y (.inr (.inr (.inl ⟨x, hx, hy⟩)))), by rw [List.length_append, List.map_append]; exact row, fun x hx => ?_, ?_, Nat.le_trans h.sz k.size⟩
  · have fresh : x < wr.heap.size → vl.ownBlock ≠ some x → vl'.ownBlock ≠ some x := fun h2 h3 e => by
      rcases ha x e with h4 | h4
      · exact h3 h4
      · omega
    have keep : UFr B1 T1 B2 T2 hd ls x → W0 ≤ x ∧ x < w'.heap.size ∧ va.ownBlock ≠ some x ∧ vl'.ownBlock ≠ some x := fun q => by
      have := h.fr x q
      exact ⟨this.1, Nat.lt_of_lt_of_le this.2.1 k.size, this.2.2.1, fresh this.2.1 this.2.2.2⟩
    rcases q with q | q | q | ⟨y, hy, e⟩
    · exact keep (.inl q)
    · exact keep (.inr (.inl q))
    · exact keep (.inr (.inr (.inl q)))
    · rcases List.mem_append.1 hy with hy | hy
      · exact keep (.inr (.inr (.inr ⟨y, hy, e⟩)))
      · rw [List.mem_singleton.1 hy] at e
        have := bz x e
        exact ⟨by omega, Nat.lt_of_lt_of_le this.2 k.size, hab x e, fresh this.2 (fun e' => by have := hvl x e'; omega)⟩
  · obtain ⟨_, _, h1⟩ := own_heap h.all hx
    obtain ⟨_, _, h2⟩ := own_heap h.lst e
    exact ne_ty h1 h2 (by decide) rfl
  · rcases List.mem_append.1 hx with hx | hx
    · exact ⟨(h.kls x hx).1.kp k (fun y hy => old y (.inr (.inr (.inr ⟨x, hx, hy⟩)))), (h.kls x hx).2⟩
    · rw [List.mem_singleton.1 hx]
      obtain ⟨vs, r, h2⟩ := kl.kp k (fun y hy e => by have := bz y hy; have := hvl y e; omega)
      exact ⟨⟨vs, own_mono r hZ, h2⟩, hn⟩
  · rw [List.pairwise_append]
    refine ⟨h.lpw, by simp, fun x hx y hy g' hg e => ?_⟩
    rw [List.mem_singleton.1 hy] at e
    have := hls x hx g' hg
    have := bz g' e
    omega
end
end Go.Proofs.Yteppdlaoeoeplaa

namespace Go.Proofs.Yteppdlaoeoeplaa
open Go.RowKit ObM LedM PolM
set_option linter.unusedSimpArgs false

theorem infoPl : (Try.prog.info? 43).map (fun i => (i.zero, i.size, i.bytes)) = some (some (.slice none 0 0), 1, 24) := by kernel_rfl
theorem below_kp {w w1 w2 : World} {M : Nat → Prop} (b : Below w.heap.size w w1) (k : Kp M w1 w2) (hM : ∀ g, M g → w.heap.size ≤ g) : Below w.heap.size w w2 := by
  have g : Kp (fun g => w.heap.size ≤ g) w w2 := (Kp.of_below b _).trans k (fun g _ q => hM g q)
  exact g.below (fun g q => q)
theorem HOut.kp {Z : Nat} {m : Int} {w w' : World} {bl : List By} {v : Value} {b : By} {M : Nat → Prop} (h : HOut Z m w bl v b) (k : Kp M w w') (hM : ∀ g, Z ≤ g → ¬ M g) : HOut Z m w' bl v b :=
  ⟨h.rdv.kp k (fun g hg => hM g (h.vz g hg)), h.vz, h.apt, fun q x hx => (h.mks q x hx).kp k (fun g hg => hM g (h.bz q x hx g hg).1), fun q x hx g hg => ⟨(h.bz q x hx g hg).1, Nat.lt_of_lt_of_le (h.bz q x hx g hg).2 k.size⟩, h.kl.kp k (fun g hg => by
    obtain ⟨vs, r, _⟩ := h.kl
    exact hM g (own_heap r hg).1)⟩
theorem rd_blk {w : World} {v : Value} {vs : List Value} (h : Rd w v vs) (h0 : 0 < vs.length) {g : Nat} (hg : v.ownBlock = some g) : g < w.heap.size := by
  obtain ⟨ao, cap, rfl, _, _, H⟩ := h
  obtain ⟨g', o, rfl, lt, _⟩ := H 0 h0
  simp [Value.ownBlock] at hg
  omega
def zOp : List Value := [.int .i64 0, .bool false, .int .i64 0, .int .i64 0, .slice none 0 0]
theorem ocL_one (o : Oc) (a : Option Addr) (c : Nat) : ∀ v ∈ ocL o a c, v.oneCell' = true := fun v hv => by
  simp only [ocL, List.mem_cons, List.mem_nil_iff, or_false] at hv
  rcases hv with rfl | rfl | rfl | rfl | rfl <;> rfl
/-- The holidays of the policy that New was handed: from the i-th on as they were. -/
def QH (v : Value) (hs : List Int) (i : Nat) (w : World) : Prop := ∀ G n c, v = .slice (some ⟨G, 0, none⟩) n c → ∃ cur, Blk G 3 cur w ∧ hs.length ≤ cur.length ∧ ∀ j, i ≤ j → j < hs.length → cur[j]? = some (.int .i64 (hs.getD j 0))
theorem QH.start {base : Nat} {v : Value} {hs : List Int} {w : World} (h : RowV 3 base w v (bkL hs)) : QH v hs 0 w := fun G n c e => by
  subst e
  rcases h.2 with ⟨h1, _⟩ | ⟨g, cap, cur, h1, _, h2, h3, h4, h5, h6⟩
  · cases h1
  · injection h1 with h1 _ h1c
    injection h1 with h1
    injection h1 with h1
    subst h1
    have hl := bkL_len hs
    rw [Nat.mul_one] at h6
    refine ⟨cur.toList, h2, ?_, fun j _ hj => ?_⟩
    · have := congrArg List.length h6
      rw [List.length_take] at this
      omega
    · have e := bkL_at (l := hs) (k := j) hj
      rw [← h6, List.getElem?_take, if_pos (by omega)] at e
      exact e
theorem QH.mark {G n c i : Nat} {hs : List Int} {w : World} (h : QH (.slice (some ⟨G, 0, none⟩) n c) hs i w) (u : Value) : QH (.slice (some ⟨G, 0, none⟩) n c) hs (i + 1) (w.setCell ⟨G, i, none⟩ u) := fun G' n' c' e => by
  injection e with e _ _
  injection e with e
  injection e with e
  subst e
  obtain ⟨cur, h1, h2, h3⟩ := h G n c rfl
  refine ⟨cur.set i u, h1.set u, by rw [List.length_set]; exact h2, fun j hj hl => ?_⟩
  rw [List.getElem?_set_ne (by omega)]
  exact h3 j (by omega) hl
theorem QH.kp {v : Value} {hs : List Int} {i : Nat} {w w' : World} {M : Nat → Prop} (h : QH v hs i w) (k : Kp M w w') (hM : ∀ g, v.ownBlock = some g → ¬ M g) : QH v hs i w' := fun G n c e => by
  obtain ⟨cur, h1, h2⟩ := h G n c e
  exact ⟨cur, h1.kp k (hM G (by rw [e]; rfl)), h2⟩

set_option maxRecDepth 40000 in
set_option maxHeartbeats 16000000 in
theorem upTo_at (l hs : List Int) (sv : Value) (os : List Oc) (ov : Value) (lo hi : Int) (w : World) (hl : l.length = 17) (hr : Rd w sv (bkL hs)) (hb : hs.length ≤ 1000000000) (hO : RdOc w ov os) (hok : ∀ o ∈ os, OcOk o ∧ o.bs.length ≤ 1048576) (hN : os.length ≤ 1048590) :
    Calls Try.prog 8 #[.agg (polL l sv).toArray, ov, .int .i64 lo, .int .i64 hi] w fun e w' => e = .returned (.bool true) ∧ Below w.heap.size w w' := by
  obtain ⟨iL, hiL, hL0, hL1, hL2⟩ := info_parts infoPl
  obtain ⟨sa, sc, rfl, -, -⟩ := hr.len
  rw [bkL_len] at hr ⊢
  obtain ⟨H, hH⟩ : ∃ H, hs.length = H := ⟨_, rfl⟩
  have HH : Hid (hs.length = H) := hH
  rw [hH] at hr hb ⊢
  obtain ⟨oa, ocp, rfl, hO'⟩ := hO
  obtain ⟨N, hN'⟩ : ∃ N, os.length = N := ⟨_, rfl⟩
  have HN : Hid (os.length = N) := hN'
  rw [hN'] at hN ⊢
  have RO : Hid (∀ i o, os[i]? = some o → ∃ g off x cc, oa = some ⟨g, off, none⟩ ∧ g < w.heap.size ∧ w.rangeAt g (off + i * 5) (ocL o x cc) ∧ RdB w (.slice x o.bs.length cc) o.bs) := hO'
  have HOK : Hid (∀ o ∈ os, OcOk o ∧ o.bs.length ≤ 1048576) := hok
  have HL : Hid (l.length = 17 ∧ Rd w (.slice sa H sc) (bkL hs) ∧ hs.length ≤ 1000000000) := ⟨hl, hr, by rw [hH]; exact hb⟩
  have SZP : Hid ((Try.prog.info? 24).map (·.size) = some (polL l (.slice sa H sc)).length) := by show _ = _; rw [polL_len hl]; exact sizeP
  have SZQ : Hid (∀ v : Value, (Try.prog.info? 24).map (·.size) = some (polL l v).length) := fun v => by rw [polL_len hl]; exact sizeP
  have OWN : Hid (∀ w', Below w.heap.size w w' → Calls Try.prog 10 #[.agg (polL l (.slice sa H sc)).toArray] w' (OwnAns l hs w')) := fun w' b => own_at l hs _ w' hl (hr.later b) (by rw [hH]; omega)
  have NEW : Hid (∀ v w', Rd w' v (bkL hs) → Calls Try.prog 11 #[.agg (polL l v).toArray] w' fun e w'' => ∃ R bm, e = .returned (.pointer (some ⟨R, 0, none⟩)) ∧ BoxV R bm (fun _ => False) (rul l hs) [] w'' ∧ Below w'.heap.size w' w'' ∧ w'.heap.size ≤ R ∧ w'.heap.size ≤ bm) := fun v w' q => new_at l hs v w' hl q (by rw [hH]; omega)
  clear hr hO' hok hH hN' hl
  obtain ⟨Q, hQ⟩ : ∃ Q, w.heap.size = Q := ⟨_, rfl⟩
  have HQ : Hid (w.heap.size = Q) := hQ
  obtain ⟨wA, hwA⟩ : ∃ wA, w.alloc (.cells (polL l (.slice sa H sc)).toArray 24) = wA := ⟨_, rfl⟩
  have S0 : Hid (Blk Q 24 (polL l (.slice sa H sc)) wA ∧ Below w.heap.size w wA) := by
    rw [← hwA, ← hQ]
    exact ⟨Blk.new _ _ _, below_alloc _ _⟩
  go_enter Try.func8, Try.ntmps8
  go_upto_region 1 with fail
  clear hQ hwA
  go_wp2_with (refine step_load rfl 24 _ rfl Q 0 rfl (polL l (.slice sa H sc)) _ (Blk.all S0.out.1) Try.underlying24 rfl SZP.out ?_)
  refine (OWN.out _ S0.out.2).mono ?_
  rintro e w1 ⟨ao, an, acp, rfl, r1, b1⟩
  obtain rfl : H = an := by have e := own_len r1; rw [bkL_len, HH.out] at e; exact e.symm
  have S1 : Hid (Blk Q 24 (polL l (.slice sa H sc)) w1 ∧ Below w.heap.size w w1 ∧ RowV 3 wA.heap.size w1 (.slice ao H acp) (bkL hs)) := ⟨S0.out.1.below b1, below_trans S0.out.2 b1, r1⟩
  have Z1 : Hid (Q < wA.heap.size ∧ wA.heap.size ≤ w1.heap.size) := ⟨S0.out.1.lt, b1.size⟩
  have KF : Hid (∀ g, (Value.slice ao H acp).ownBlock = some g → wA.heap.size ≤ g ∧ g < w1.heap.size ∧ g ≠ Q) := fun g hg => ⟨RowV.block_ge S1.out.2.2 hg, RowV.block_lt S1.out.2.2 hg, by have h1 := RowV.block_ge S1.out.2.2 hg; have h2 := Z1.out; omega⟩
  clear r1 b1 S0
  go_upto_region 2 with ((with_reducible refine at_store ?_); refine step_store rfl 24 _ _ rfl w1.heap.size 0 24 polZc (polL l (.slice ao H acp)) rfl rfl (Blk.new 24 polZc w1) (by show 0 + _ ≤ _; rw [polL_len HL.out.1]; decide) (SZQ.out _) polL_oneC ?_; intro w2 nb2 g2)
  have S2 : Hid (Blk Q 24 (polL l (.slice sa H sc)) w2 ∧ Below w.heap.size w w2 ∧ RowV 3 wA.heap.size w2 (.slice ao H acp) (bkL hs) ∧ Blk w1.heap.size 24 (polL l (.slice ao H acp)) w2 ∧ w1.heap.size < w2.heap.size) := by
    have bA := below_alloc w1 (.cells polZc.toArray 24)
    have bb : Below w1.heap.size w1 w2 := below_row bA g2 (Nat.le_refl _)
    have nb := blk_whole2 (Z := polZc) (by rw [polL_len HL.out.1]; decide) nb2
    exact ⟨S1.out.1.below bb, below_trans S1.out.2.1 bb, RowV.later S1.out.2.2 bb, nb, nb.lt⟩
  clear S1 nb2 g2
  obtain ⟨P9, hP9⟩ : ∃ P9, w1.heap.size = P9 := ⟨_, rfl⟩
  rw [hP9] at S2 Z1 KF ⊢
  clear hP9
  go_wp2_with (refine step_load rfl 24 _ rfl P9 0 rfl (polL l (.slice ao H acp)) _ (Blk.all S2.out.2.2.2.1) Try.underlying24 rfl (SZQ.out _) ?_)
  refine (NEW.out _ _ (RowV.rd S2.out.2.2.1)).mono ?_
  rintro e w3 ⟨R1, bm1, rfl, x3, b3, r3, m3⟩
  have S3 : Hid (Blk Q 24 (polL l (.slice sa H sc)) w3 ∧ Below w.heap.size w w3 ∧ RowV 3 wA.heap.size w3 (.slice ao H acp) (bkL hs) ∧ Blk P9 24 (polL l (.slice ao H acp)) w3 ∧ BoxV R1 bm1 (fun _ => False) (rul l hs) [] w3) := ⟨S2.out.1.below b3, below_trans S2.out.2.1 b3, RowV.later S2.out.2.2.1 b3, S2.out.2.2.2.1.below b3, x3⟩
  have Z3 : Hid (P9 < w2.heap.size ∧ w2.heap.size ≤ R1 ∧ w2.heap.size ≤ bm1 ∧ R1 < w3.heap.size ∧ bm1 < w3.heap.size) := ⟨S2.out.2.2.2.2, r3, m3, x3.blk.lt, x3.mp.lt⟩
  clear x3 b3 r3 m3 S2
  have bA := below_alloc w3 (.cells #[.pointer (some ⟨R1, 0, none⟩), .slice none 0 0] 39)
  have S4 : Hid (Blk Q 24 (polL l (.slice sa H sc)) (w3.alloc (.cells #[.pointer (some ⟨R1, 0, none⟩), .slice none 0 0] 39)) ∧ Below w.heap.size w (w3.alloc (.cells #[.pointer (some ⟨R1, 0, none⟩), .slice none 0 0] 39)) ∧ RowV 3 wA.heap.size (w3.alloc (.cells #[.pointer (some ⟨R1, 0, none⟩), .slice none 0 0] 39)) (.slice ao H acp) (bkL hs) ∧ Blk P9 24 (polL l (.slice ao H acp)) (w3.alloc (.cells #[.pointer (some ⟨R1, 0, none⟩), .slice none 0 0] 39)) ∧ BoxV R1 bm1 (fun _ => False) (rul l hs) [] (w3.alloc (.cells #[.pointer (some ⟨R1, 0, none⟩), .slice none 0 0] 39)) ∧ Blk w3.heap.size 39 [.pointer (some ⟨R1, 0, none⟩), .slice none 0 0] (w3.alloc (.cells #[.pointer (some ⟨R1, 0, none⟩), .slice none 0 0] 39))) :=
    ⟨S3.out.1.below bA, below_trans S3.out.2.1 bA, RowV.later S3.out.2.2.1 bA, S3.out.2.2.2.1.below bA, S3.out.2.2.2.2.below bA, Blk.new 39 [.pointer (some ⟨R1, 0, none⟩), .slice none 0 0] w3⟩
  clear S3 bA
  go_upto_region 3 with fail
  generalize w3.alloc (.cells #[.pointer (some ⟨R1, 0, none⟩), .slice none 0 0] 39) = w4 at *
  obtain ⟨P1, hP1⟩ : ∃ P1, w3.heap.size = P1 := ⟨_, rfl⟩
  rw [hP1] at S4 Z3 ⊢
  clear hP1
  go_wp2_with (refine step_load rfl 24 _ rfl Q 0 rfl (polL l (.slice sa H sc)) _ (Blk.all S4.out.1) Try.underlying24 rfl SZP.out ?_)
  refine (OWN.out _ S4.out.2.1).mono ?_
  rintro e w5 ⟨ao2, an2, acp2, rfl, r5, b5⟩
  have S5 : Hid (Blk Q 24 (polL l (.slice sa H sc)) w5 ∧ Below w.heap.size w w5 ∧ RowV 3 wA.heap.size w5 (.slice ao H acp) (bkL hs) ∧ Blk P9 24 (polL l (.slice ao H acp)) w5 ∧ BoxV R1 bm1 (fun _ => False) (rul l hs) [] w5 ∧ Blk P1 39 [.pointer (some ⟨R1, 0, none⟩), .slice none 0 0] w5 ∧ Rd w5 (.slice ao2 an2 acp2) (bkL hs)) := ⟨S4.out.1.below b5, below_trans S4.out.2.1 b5, RowV.later S4.out.2.2.1 b5, S4.out.2.2.2.1.below b5, S4.out.2.2.2.2.1.below b5, S4.out.2.2.2.2.2.below b5, RowV.rd r5⟩
  have Z5 : Hid (P1 < w5.heap.size) := S5.out.2.2.2.2.2.1.lt
  clear r5 b5 S4
  go_wp2_with fail
  refine (NEW.out _ _ S5.out.2.2.2.2.2.2).mono ?_
  rintro e w6 ⟨R2, bm2, rfl, x6, b6, r6, m6⟩
  have S6 : Hid (Blk Q 24 (polL l (.slice sa H sc)) w6 ∧ Below w.heap.size w w6 ∧ RowV 3 wA.heap.size w6 (.slice ao H acp) (bkL hs) ∧ Blk P9 24 (polL l (.slice ao H acp)) w6 ∧ BoxV R1 bm1 (fun _ => False) (rul l hs) [] w6 ∧ Blk P1 39 [.pointer (some ⟨R1, 0, none⟩), .slice none 0 0] w6 ∧ BoxV R2 bm2 (fun _ => False) (rul l hs) [] w6) := ⟨S5.out.1.below b6, below_trans S5.out.2.1 b6, RowV.later S5.out.2.2.1 b6, S5.out.2.2.2.1.below b6, S5.out.2.2.2.2.1.below b6, S5.out.2.2.2.2.2.1.below b6, x6⟩
  have Z6 : Hid (w5.heap.size ≤ R2 ∧ w5.heap.size ≤ bm2 ∧ R2 < w6.heap.size ∧ bm2 < w6.heap.size) := ⟨r6, m6, x6.blk.lt, x6.mp.lt⟩
  clear x6 b6 r6 m6 S5 NEW OWN
  have bA := below_alloc w6 (.cells #[.pointer (some ⟨R2, 0, none⟩), .slice none 0 0] 39)
  have S7 : Hid (Blk Q 24 (polL l (.slice sa H sc)) (w6.alloc (.cells #[.pointer (some ⟨R2, 0, none⟩), .slice none 0 0] 39)) ∧ Below w.heap.size w (w6.alloc (.cells #[.pointer (some ⟨R2, 0, none⟩), .slice none 0 0] 39)) ∧ RowV 3 wA.heap.size (w6.alloc (.cells #[.pointer (some ⟨R2, 0, none⟩), .slice none 0 0] 39)) (.slice ao H acp) (bkL hs) ∧ Blk P9 24 (polL l (.slice ao H acp)) (w6.alloc (.cells #[.pointer (some ⟨R2, 0, none⟩), .slice none 0 0] 39)) ∧ BoxV R1 bm1 (fun _ => False) (rul l hs) [] (w6.alloc (.cells #[.pointer (some ⟨R2, 0, none⟩), .slice none 0 0] 39)) ∧ Blk P1 39 [.pointer (some ⟨R1, 0, none⟩), .slice none 0 0] (w6.alloc (.cells #[.pointer (some ⟨R2, 0, none⟩), .slice none 0 0] 39)) ∧ BoxV R2 bm2 (fun _ => False) (rul l hs) [] (w6.alloc (.cells #[.pointer (some ⟨R2, 0, none⟩), .slice none 0 0] 39)) ∧ Blk w6.heap.size 39 [.pointer (some ⟨R2, 0, none⟩), .slice none 0 0] (w6.alloc (.cells #[.pointer (some ⟨R2, 0, none⟩), .slice none 0 0] 39))) :=
    ⟨S6.out.1.below bA, below_trans S6.out.2.1 bA, RowV.later S6.out.2.2.1 bA, S6.out.2.2.2.1.below bA, S6.out.2.2.2.2.1.below bA, S6.out.2.2.2.2.2.1.below bA, S6.out.2.2.2.2.2.2.below bA, Blk.new 39 [.pointer (some ⟨R2, 0, none⟩), .slice none 0 0] w6⟩
  clear S6 bA
  go_upto_region 4 with fail
  generalize w6.alloc (.cells #[.pointer (some ⟨R2, 0, none⟩), .slice none 0 0] 39) = w7 at *
  obtain ⟨P2, hP2⟩ : ∃ P2, w6.heap.size = P2 := ⟨_, rfl⟩
  rw [hP2] at S7 Z6 ⊢
  clear hP2
  have c1 := S7.out.2.2.2.2.2.1.cell 0 _ rfl
  have l1 := S7.out.2.2.2.2.2.1.lt
  have c2 := S7.out.2.2.2.2.2.2.2.cell 0 _ rfl
  have l2 := S7.out.2.2.2.2.2.2.2.lt
  have c9 := S7.out.2.2.2.1.cell 17 _ (polL_hol HL.out.1)
  have l9 := S7.out.2.2.2.1.lt
  have c0 := S7.out.1.cell 17 _ (polL_hol HL.out.1)
  have l0 := S7.out.1.lt
  have Z7 : Hid (P2 < w7.heap.size) := S7.out.2.2.2.2.2.2.2.lt
  have QI0 : Hid (Kp (fun g => (Value.slice ao H acp).ownBlock = some g) w7 w7 ∧ QH (.slice ao H acp) hs 0 w7) := ⟨Kp.refl _ _, QH.start S7.out.2.2.1⟩
  go_wp2_with fail
  clear c1 l1 c2 l2 c9 l9 c0 l0
  go_loopw [12] (fun vk wr => ∃ i : Nat, vk = .int .i64 (i : Int) ∧ i ≤ H ∧ Hid (Kp (fun g => (Value.slice ao H acp).ownBlock = some g) w7 wr ∧ QH (.slice ao H acp) hs i wr)) (fun vk _ => H - (intOf vk).toNat)
  case atStart => exact ⟨0, rfl, by omega, QI0⟩
  case round =>
    clear QI0
    obtain ⟨i, rfl, hi', D⟩ := hrel
    have c9 := (S7.out.2.2.2.1.kp D.out.1 (fun e => by have := KF.out _ e; omega)).cell 17 _ (polL_hol HL.out.1)
    have l9 := (S7.out.2.2.2.1.kp D.out.1 (fun e => by have := KF.out _ e; omega)).lt
    have c0 := (S7.out.1.kp D.out.1 (fun e => (KF.out _ e).2.2 rfl)).cell 17 _ (polL_hol HL.out.1)
    have l0 := (S7.out.1.kp D.out.1 (fun e => (KF.out _ e).2.2 rfl)).lt
    by_cases hlt : (i : Int) < (H : Int)
    · obtain ⟨G, rfl⟩ : ∃ G, ao = some ⟨G, 0, none⟩ := by
        rcases S7.out.2.2.1.2 with ⟨h1, h0⟩ | ⟨g, cap, cur, h1, _⟩
        · rw [bkL_len, HH.out] at h0; omega
        · injection h1 with h1 _ _; exact ⟨g, h1⟩
      obtain ⟨cur, qb, ql, qc⟩ := D.out.2 G _ _ rfl
      have cG := Blk.cell qb i _ (qc i (Nat.le_refl _) (by rw [HH.out]; omega))
      have fG := Blk.fz qb i
      have lG := Blk.lt qb
      have B7 : Below w.heap.size w wr := below_kp S7.out.2.1 D.out.1 (fun g e => by have := (KF.out g e).1; have := Z1.out; have := HQ.out; omega)
      obtain ⟨ao', cp', e', -, -, HR⟩ := HL.out.2.1.later B7
      injection e' with e1 _ _
      subst e1
      obtain ⟨gs, os', rfl, lgs, cs⟩ := HR i (by rw [bkL_len, HH.out]; omega)
      have es : (bkL hs)[i]'(by rw [bkL_len, HH.out]; omega) = .int .i64 (hs.getD i 0) := by
        have := bkL_at (l := hs) (k := i) (by rw [HH.out]; omega)
        rw [List.getElem?_eq_getElem (by rw [bkL_len, HH.out]; omega)] at this
        injection this
      rw [es] at cs
      have DN : Hid (∀ m, Kp (fun g => (Value.slice (some ⟨G, 0, none⟩) H acp).ownBlock = some g) w7 ((wr.drewN m).setCell ⟨G, i, none⟩ (.int .i64 (-1))) ∧ QH (.slice (some ⟨G, 0, none⟩) H acp) hs (i + 1) ((wr.drewN m).setCell ⟨G, i, none⟩ (.int .i64 (-1)))) := fun m =>
        ⟨(D.out.1.drewN m).trans (Kp.of_grown (setCell_grown _ G i _)) (fun g _ e => e), QH.mark (D.out.2.kp (Kp.drewN (Kp.refl (fun _ => False) wr) m) (fun _ _ q => q)) _⟩
      clear qb ql qc es HR D B7
      generalize hs.getD i 0 = x at *
      have ex : (x != x) = false := by simp
      go_upto_region 9 with fail
      go_quiet (fail)
      go_wp2_with fail
      go_roundw
      case rel => exact ⟨i + 1, by go_num, by omega, DN.out _⟩
      case measure => simp [intOf]; omega
    · obtain rfl : H = i := by omega
      have K7 : Hid (Kp (fun g => (Value.slice ao H acp).ownBlock = some g) w7 wr) := D.out.1
      obtain ⟨P5, hP5⟩ : ∃ P5, wr.heap.size = P5 := ⟨_, rfl⟩
      obtain ⟨w8, hw8⟩ : ∃ w8, wr.alloc (.cells #[.slice none 0 0, .slice none 0 0] 45) = w8 := ⟨_, rfl⟩
      have S8 : Hid (Blk P5 45 [.slice none 0 0, .slice none 0 0] w8 ∧ Below wr.heap.size wr w8 ∧ P5 < w8.heap.size ∧ w7.heap.size ≤ P5) := by
        rw [← hw8, ← hP5]
        exact ⟨Blk.new _ [.slice none 0 0, .slice none 0 0] _, below_alloc _ _, by simp, K7.out.size⟩
      clear D
      go_upto_region 16 with fail
      clear c9 l9 c0 l0 hP5 hw8
      obtain ⟨W0, hW0⟩ : ∃ W0, w8.heap.size = W0 := ⟨_, rfl⟩
      have HW0 : Hid (w8.heap.size = W0) := hW0
      clear hW0
      have UFF : Hid (UF w.heap.size W0 Q P1 P2 P5 R1 bm1 R2 bm2) := by
        have h1 := HQ.out
        have h2 := Z1.out
        have h3 := Z3.out
        have h5 := Z5.out
        have h6 := Z6.out
        have h7 := Z7.out
        have h8 := S8.out.2.2
        have h9 := HW0.out
        exact ⟨by omega, by omega, by omega, by omega, by omega, by omega, by omega, by omega⟩
      have U0 : Hid (UI w.heap.size W0 Q P1 P2 P5 l (.slice sa H sc) (rul l hs) R1 bm1 (fun _ => False) (fun _ => False) [] [] none 0 0 R2 bm2 (fun _ => False) (fun _ => False) [] [] none 0 0 0 (.slice none 0 0) [] (.slice none 0 0) [] w8 ∧ Below w.heap.size w w8) := by
        have hk : ∀ x, P9 ≤ x ∨ x = Q → ¬ ((Value.slice ao H acp).ownBlock = some x) := fun x hx e => by have := KF.out x e; omega
        have h2 := Z1.out
        have h3 := Z3.out
        have h5 := Z5.out
        have h6 := Z6.out
        have b8 := S8.out.2.1
        have s7 := S7.out
        refine ⟨⟨(s7.1.kp K7.out (hk _ (.inr rfl))).below b8, (s7.2.2.2.2.2.1.kp K7.out (hk _ (.inl (by omega)))).below b8, (s7.2.2.2.2.2.2.2.kp K7.out (hk _ (.inl (by omega)))).below b8, ⟨_, _, S8.out.1⟩, ⟨(s7.2.2.2.2.1.kp K7.out (hk _ (.inl (by omega))) (hk _ (.inl (by omega))) (fun _ q => q.elim)).below b8, RL.nil w8, rfl, Lim.nil 0, (fun e he => nomatch he), fun g q => q.elim⟩, ⟨(s7.2.2.2.2.2.2.1.kp K7.out (hk _ (.inl (by omega))) (hk _ (.inl (by omega))) (fun _ q => q.elim)).below b8, RL.nil w8, rfl, Lim.nil 0, (fun e he => nomatch he), fun g q => q.elim⟩, fun g q => ?_, World.ownsRow_nil _ _ _ _, (fun h hh => nomatch hh), World.ownsRow_nil _ _ _ _, (fun b hb => nomatch hb), List.Pairwise.nil, Nat.le_of_eq HW0.out.symm⟩, below_trans (below_kp s7.2.1 K7.out (fun g e => by have := KF.out g e; have := HQ.out; omega)) b8⟩
        rcases q with (q | q) | (q | q) | ⟨x, hx, _⟩ | ⟨x, hx, _⟩
        · exact q.elim
        · exact q.elim
        · exact q.elim
        · exact q.elim
        · cases hx
        · cases hx
      clear S7 S8 K7 KF Z1 Z3 Z5 Z6 Z7 HW0
      go_wp2_with fail
      go_loopw [13, 14, 15, 17, 18, 19] (fun v13 v14 v15 v17 _ _ wr => ∃ (i : Nat) (B1 T1 : Nat → Prop) (L1 ys1 : List En) (a1 : Option Addr) (n1 c1 : Nat) (B2 T2 : Nat → Prop) (L2 ys2 : List En) (a2 : Option Addr) (n2 c2 : Nat) (hd : List Hd) (ls : List By) (va : Option Addr) (vn vc : Nat) (xa : Option Addr) (xn xc : Nat), v17 = .int .i64 (i : Int) ∧ i ≤ N ∧ v13 = .bool true ∧ v14 = .slice va vn vc ∧ v15 = .slice xa xn xc ∧ ls.length = i ∧ hd.length ≤ i * 1048600 ∧ Hid (UI w.heap.size W0 Q P1 P2 P5 l (.slice sa H sc) (rul l hs) R1 bm1 B1 T1 L1 ys1 a1 n1 c1 R2 bm2 B2 T2 L2 ys2 a2 n2 c2 i (.slice va vn vc) hd (.slice xa xn xc) ls wr ∧ Below w.heap.size w wr)) (fun _ _ _ v17 _ _ _ => N - (intOf v17).toNat)
      case atStart => exact ⟨0, fun _ => False, fun _ => False, [], [], none, 0, 0, fun _ => False, fun _ => False, [], [], none, 0, 0, [], [], none, 0, 0, none, 0, 0, rfl, by omega, rfl, rfl, rfl, rfl, by simp, U0⟩
      case round =>
        clear U0
        obtain ⟨i, B1, T1, L1, ys1, a1, n1, c1, B2, T2, L2, ys2, a2, n2, c2, hd, ls, va, vn, vc, xa, xn, xc, rfl, hi', rfl, rfl, rfl, hll, hhd, D⟩ := hrel
        have HLL : Hid (ls.length = i) := hll
        clear hll
        by_cases hlt : (i : Int) < (N : Int)
        · obtain ⟨o, ho'⟩ : ∃ o, os[i]? = some o := ⟨os[i]'(by rw [HN.out]; omega), List.getElem?_eq_getElem _⟩
          obtain ⟨g, off, ox, oc, rfl, glt, rg, rdb⟩ := RO.out i o ho'
          have RG : Hid (wr.rangeAt g (off + i * 5) (ocL o ox oc)) := fun j u hu => (D.out.2.cell (p := ⟨g, off + i * 5 + j, none⟩) glt).trans (rg j u hu)
          have OK : Hid (OcOk o ∧ o.bs.length ≤ 1048576) := HOK.out o (List.mem_of_getElem? ho')
          have RDW : Hid (RdB w (.slice ox o.bs.length oc) o.bs) := rdb
          clear ho' rg rdb RO HOK HN glt
          go_upto_region 20 with (first
            | (refine step_load rfl 30 _ rfl g (off + i * 5) rfl (ocL o ox oc) _ RG.out Try.underlying30 rfl sizeOp ?_)
            | ((with_reducible refine at_store ?_); refine step_store rfl 30 _ _ rfl wr.heap.size 0 30 zOp (ocL o ox oc) rfl rfl (Blk.new 30 zOp wr) (show 0 + 5 ≤ 5 by decide) sizeOp (ocL_one _ _ _) ?_; intro wa nba ga))
          have UIa : Hid (UI w.heap.size W0 Q P1 P2 P5 l (.slice sa H sc) (rul l hs) R1 bm1 B1 T1 L1 ys1 a1 n1 c1 R2 bm2 B2 T2 L2 ys2 a2 n2 c2 i (.slice va vn vc) hd (.slice xa xn xc) ls wa ∧ Below w.heap.size w wa ∧ Blk wr.heap.size 30 (ocL o ox oc) wa) := by
            have bb : Below wr.heap.size wr wa := below_row (below_alloc wr _) ga (Nat.le_refl _)
            exact ⟨D.out.1.below bb, below_trans D.out.2 bb, blk_whole2 (Z := zOp) (by show 5 ≤ 0 + 5; decide) nba⟩
          have RDO : Hid (RdB wa (.slice ox o.bs.length oc) o.bs ∧ (0 < o.bs.length → ∀ g, (Value.slice ox o.bs.length oc).ownBlock = some g → g < w.heap.size)) := ⟨Rd.later RDW.out UIa.out.2.1, fun h0 g hg => rd_blk RDW.out (by rw [List.length_map]; exact h0) hg⟩
          clear nba ga RG D RDW
          have oc1 := UIa.out.2.2.cell 1 _ rfl
          have lto := UIa.out.2.2.lt
          have hm0 : 0 ≤ 7 * (i : Int) % 256 ∧ 7 * (i : Int) % 256 < 256 := by omega
          go_upto_region 21 with fail
          generalize 7 * (i : Int) % 256 = m at *
          have HM : Hid (0 ≤ m ∧ m < 256) := hm0
          clear hm0
          cases hot : o.ot with
          | false =>
            rw [hot] at oc1
            clear hot
            have STP : Hid (Calls Try.prog 12 #[.agg (polL l (.slice sa H sc)).toArray, .agg #[.pointer (some ⟨R1, 0, none⟩), .slice a1 n1 c1], .agg (ocL o ox oc).toArray, .int .u8 m] wa (StU R1 bm1 B1 T1 (rul l hs) i m wa)) :=
              step_all R1 bm1 B1 T1 (rul l hs) l (.slice sa H sc) L1 ys1 a1 n1 c1 o ox oc m wa i hs UIa.out.1.one (boL_rul l hs) (by omega) OK.out.1 HL.out.1 (HL.out.2.1.later UIa.out.2.1) (by have := HL.out.2.2; omega) RDO.out.1 OK.out.2 (fun h0 g hg => by have := RDO.out.2 h0 g hg; have := UFF.out.le; omega) HM.out
            have bx := UIa.out.1.p1.all
            have RGP : Hid (wa.rangeAt P1 0 [.pointer (some ⟨R1, 0, none⟩), .slice a1 n1 c1]) := bx
            have RG0 : Hid (wa.rangeAt Q 0 (polL l (.slice sa H sc))) := UIa.out.1.p0.all
            have RGO : Hid (wa.rangeAt wr.heap.size 0 (ocL o ox oc)) := UIa.out.2.2.all
            clear bx
            go_wp2_with (first
              | (refine step_load rfl 24 _ rfl Q 0 rfl (polL l (.slice sa H sc)) _ RG0.out Try.underlying24 rfl SZP.out ?_)
              | (refine step_load rfl 39 _ rfl P1 0 rfl [.pointer (some ⟨R1, 0, none⟩), .slice a1 n1 c1] _ RGP.out Try.underlying39 rfl sizePr ?_)
              | (refine step_load rfl 30 _ rfl wr.heap.size 0 rfl (ocL o ox oc) _ RGO.out Try.underlying30 rfl sizeOp ?_))
            refine STP.out.mono ?_
            rintro e wb ⟨a, n, c, T, B, L, ys, Z, ba, bn, bc, pa, pn, pc, bl, rfl, Pb, kb, hbB, htT, hZ, hz, ho, hb1, hb2⟩
            obtain ⟨u5, v5, q5⟩ := UIa.out.1.p5
            have UFX := UFF.out
            have XP : Hid (Blk P1 39 [.pointer (some ⟨R1, 0, none⟩), .slice a1 n1 c1] wb ∧ Blk P5 45 [u5, v5] wb) := ⟨UIa.out.1.p1.kp kb (fun e => by obtain ⟨-, -, -, -, ⟨y1, y2, y3, y4, y5, y6⟩, -, -, -⟩ := UFX; exact y1 e), q5.kp kb (fun e => by obtain ⟨-, -, -, -, ⟨y1, y2, y3, y4, y5, y6⟩, -, -, -⟩ := UFX; exact y5 e)⟩
            have SB : Hid (Pr R1 bm1 B T (rul l hs) L ys a n c (i + 1) wb ∧ Kp (fun g => g = bm1) wa wb ∧ (∀ g, B g → B1 g ∨ wa.heap.size ≤ g) ∧ (∀ g, T g → T1 g ∨ wa.heap.size ≤ g) ∧ wa.heap.size ≤ Z ∧ (∀ g, B g ∨ T g → g < Z) ∧ HOut Z m wb bl (.slice ba bn bc) ⟨pa, pn, pc⟩ ∧ bl.length ≤ i ∧ pn ≤ i) := ⟨Pb, kb, hbB, htT, hZ, hz, ho, hb1, hb2⟩
            have ne5 : P5 ≠ P1 := by obtain ⟨-, -, -, ⟨q12, q15, q25⟩, -, -, -, -⟩ := UFX; exact q15.symm
            have NE5 : Hid (P5 ≠ P1) := ne5
            clear oc1 lto UFX ne5 q5 Pb kb hbB htT hZ hz ho hb1 hb2 STP RGP RG0 RGO
            go_upto_region 24 with (first
              | ((with_reducible refine at_store ?_); refine step_store rfl 39 _ _ rfl P1 0 39 [.pointer (some ⟨R1, 0, none⟩), .slice a1 n1 c1] [.pointer (some ⟨R1, 0, none⟩), .slice a n c] rfl rfl XP.out.1 (show 0 + 2 ≤ 2 by decide) sizePr (two_one _ _ rfl rfl) ?_; intro wc nbc g1; have z5 := XP.out.2.grown g1 (fun q => by injection q with q; exact NE5.out q.symm))
              | ((with_reducible refine at_store ?_); refine step_store rfl 45 _ _ rfl P5 0 45 [u5, v5] [.slice ba bn bc, .slice pa pn pc] rfl rfl z5 (show 0 + 2 ≤ 2 by decide) sizeOu (two_one _ _ rfl rfl) ?_; intro wd nbd g5))
            have SD : Hid (UI w.heap.size W0 Q P1 P2 P5 l (.slice sa H sc) (rul l hs) R1 bm1 B T L ys a n c R2 bm2 B2 T2 L2 ys2 a2 n2 c2 (i + 1) (.slice va vn vc) hd (.slice xa xn xc) ls wd ∧ Below w.heap.size w wd ∧ HOut Z m wd bl (.slice ba bn bc) ⟨pa, pn, pc⟩ ∧ Blk P5 45 [.slice ba bn bc, .slice pa pn pc] wd) := by
              obtain ⟨Pb, kb, hbB, htT, hZ, hz, ho, -, -⟩ := SB.out
              have x1 := blk_whole2 (Z := [.pointer (some ⟨R1, 0, none⟩), .slice a1 n1 c1]) (by simp) nbc
              have x5 := blk_whole2 (Z := [u5, v5]) (by simp) nbd
              have f := UFF.out
              have lo : P1 < W0 ∧ P5 < W0 ∧ w.heap.size ≤ P1 ∧ w.heap.size ≤ P5 ∧ w.heap.size ≤ bm1 := by have h1 := f.lt; have h2 := f.le; omega
              have zw : W0 ≤ Z := Nat.le_trans UIa.out.1.sz hZ
              refine ⟨(UIa.out.1).stepped UFF.out Pb kb hbB htT x1 g1 x5 g5, below_kp (below_kp (below_kp UIa.out.2.1 kb (fun g e => by omega)) (Kp.of_grown g1) (fun g e => by injection e with e; omega)) (Kp.of_grown g5) (fun g e => by injection e with e; omega), (ho.kp (Kp.of_grown g1) (fun g hg e => by injection e with e; omega)).kp (Kp.of_grown g5) (fun g hg e => by injection e with e; omega), x5⟩
            clear nbc g1 z5 nbd g5 XP NE5
            have ZF : Hid (W0 ≤ Z ∧ (∀ g, (Value.slice va vn vc).ownBlock = some g → g < Z) ∧ (∀ g, (Value.slice xa xn xc).ownBlock = some g → g < Z) ∧ (∀ x ∈ ls, ∀ g, x.v.ownBlock = some g → g < Z) ∧ bl.length ≤ i ∧ pn ≤ i) := by
              obtain ⟨-, -, -, -, hZ, -, -, h1, h2⟩ := SB.out
              have h := UIa.out.1
              exact ⟨Nat.le_trans h.sz hZ, fun g e => Nat.lt_of_lt_of_le (own_lt h.all e) hZ, fun g e => Nat.lt_of_lt_of_le (own_lt h.lst e) hZ, fun x hx g e => Nat.lt_of_lt_of_le (h.fr g (.inr (.inr (.inr ⟨x, hx, e⟩)))).2.1 hZ, h1, h2⟩
            clear SB UIa OK RDO
            obtain rfl : vn = hd.length := own_len SD.out.1.all
            have HOLD : Hid (Calls Try.prog 13 #[.slice va hd.length vc, .slice ba bn bc, .int .u8 m] wd (HoldAns m bl hd (.slice va hd.length vc) W0 wd)) :=
              hold_at m bl hd va ba hd.length vc bn bc W0 wd SD.out.1.all SD.out.1.sz SD.out.2.2.1.rdv (fun g hg e => by have := ZF.out.2.1 g e; have := SD.out.2.2.1.vz g hg; omega) (by omega) (by have := ZF.out.2.2.2.2.1; omega) HM.out
            have b0 := SD.out.2.2.2.cell 0 _ rfl
            have l5 := SD.out.2.2.2.lt
            go_wp2_with fail
            refine HOLD.out.mono ?_
            rintro e we ⟨va', vn', vc', rfl, rh, kh, hh⟩
            have SE : Hid (UI w.heap.size W0 Q P1 P2 P5 l (.slice sa H sc) (rul l hs) R1 bm1 B T L ys a n c R2 bm2 B2 T2 L2 ys2 a2 n2 c2 (i + 1) (.slice va' vn' vc') (hd ++ hdOf m bl bl.length) (.slice xa xn xc) ls we ∧ Below w.heap.size w we ∧ Kl Z we ⟨pa, pn, pc⟩ ∧ Blk P5 45 [.slice ba bn bc, .slice pa pn pc] we ∧ (∀ g, (By.v ⟨pa, pn, pc⟩).ownBlock = some g → (Value.slice va' vn' vc').ownBlock ≠ some g)) := by
              have f := UFF.out
              obtain ⟨h1, h2⟩ := SD.out.1.held f SD.out.2.2.1 ZF.out.1 ZF.out.2.1 ZF.out.2.2.1 rh kh hh
              have lo : P5 < W0 ∧ w.heap.size ≤ W0 := by have h1 := f.lt; have h2 := f.le; omega
              refine ⟨h1, below_kp SD.out.2.1 kh (fun g e => by have := (own_heap SD.out.1.all e).1; omega), h2, SD.out.2.2.2.kp kh (fun e => by have := (own_heap SD.out.1.all e).1; omega), fun g hg e => ?_⟩
              obtain ⟨vs, r, -⟩ := SD.out.2.2.1.kl
              have z1 := (own_heap r hg).1
              have z2 := own_lt r hg
              rcases hh g e with q | q
              · have := ZF.out.2.1 g q; omega
              · omega
            have hdl : (hd ++ hdOf m bl bl.length).length ≤ (i + 1) * 1048600 := by
              have h1 := ZF.out.2.2.2.2.1
              rw [List.length_append]
              unfold hdOf
              rw [List.length_map, List.length_range]
              omega
            clear HOLD SD rh kh hh b0 l5
            have b1 := SE.out.2.2.2.1.cell 1 _ rfl
            have l5 := SE.out.2.2.2.1.lt
            have own7 := SE.out.1.lst
            have sz7 := SE.out.1.sz
            have on7 : ∀ u ∈ [Value.slice pa pn pc], u.oneCell' = true := by intro u hu; simp at hu; subst hu; rfl
            have k1 : ls.length + 1 ≤ maxLen := by have := HLL.out; unfold maxLen; omega
            have k2 : (ls.length + 1) * 24 ≤ 140737488355328 := by have := HLL.out; omega
            go_upto_region 18 with (at_builtin; refine wpList_pushR rfl (.tmp 120) (.tmp 123) 41 rfl 43 iL (.slice none 0 0) 1 24 Try.underlying41 hiL hL0 hL1 hL2 rfl (by decide) W0 (.slice xa xn xc) ls.length (ls.map By.v) [.slice pa pn pc] rfl on7 rfl own7 sz7 rfl k1 k2 ?_; intro xa' xn' xc' wf rf gf xf)
            have SF : Hid (UI w.heap.size W0 Q P1 P2 P5 l (.slice sa H sc) (rul l hs) R1 bm1 B T L ys a n c R2 bm2 B2 T2 L2 ys2 a2 n2 c2 (i + 1) (.slice va' vn' vc') (hd ++ hdOf m bl bl.length) (.slice xa' xn' xc') (ls ++ [⟨pa, pn, pc⟩]) wf ∧ Below w.heap.size w wf) := by
              have f := UFF.out
              have lo : w.heap.size ≤ W0 := f.le.2.2.2.2.2
              exact ⟨SE.out.1.listed f SE.out.2.2.1 (by show pn ≤ _; have := ZF.out.2.2.2.2.2; omega) ZF.out.1 ZF.out.2.2.1 ZF.out.2.2.2.1 rf gf xf SE.out.2.2.2.2, below_kp SE.out.2.1 (Kp.of_grown gf) (fun g e => by have := (own_heap SE.out.1.lst e).1; omega)⟩
            have ll : (ls ++ [(⟨pa, pn, pc⟩ : By)]).length = i + 1 := by rw [List.length_append]; show _ + 1 = _; rw [HLL.out]
            clear SE ZF own7 on7 rf gf xf b1 l5
            go_wp2_with fail
            go_roundw
            case rel => exact ⟨i + 1, B, T, L, ys, a, n, c, B2, T2, L2, ys2, a2, n2, c2, hd ++ hdOf m bl bl.length, ls ++ [⟨pa, pn, pc⟩], va', vn', vc', xa', xn', xc', by go_num, by omega, rfl, rfl, rfl, ll, hdl, SF⟩
            case measure => simp [intOf]; omega
          | true =>
            rw [hot] at oc1
            clear hot
            have STP : Hid (Calls Try.prog 12 #[.agg (polL l (.slice sa H sc)).toArray, .agg #[.pointer (some ⟨R2, 0, none⟩), .slice a2 n2 c2], .agg (ocL o ox oc).toArray, .int .u8 m] wa (StU R2 bm2 B2 T2 (rul l hs) i m wa)) :=
              step_all R2 bm2 B2 T2 (rul l hs) l (.slice sa H sc) L2 ys2 a2 n2 c2 o ox oc m wa i hs UIa.out.1.two (boL_rul l hs) (by omega) OK.out.1 HL.out.1 (HL.out.2.1.later UIa.out.2.1) (by have := HL.out.2.2; omega) RDO.out.1 OK.out.2 (fun h0 g hg => by have := RDO.out.2 h0 g hg; have := UFF.out.le; omega) HM.out
            have bx := UIa.out.1.p2.all
            have RGP : Hid (wa.rangeAt P2 0 [.pointer (some ⟨R2, 0, none⟩), .slice a2 n2 c2]) := bx
            have RG0 : Hid (wa.rangeAt Q 0 (polL l (.slice sa H sc))) := UIa.out.1.p0.all
            have RGO : Hid (wa.rangeAt wr.heap.size 0 (ocL o ox oc)) := UIa.out.2.2.all
            clear bx
            go_wp2_with (first
              | (refine step_load rfl 24 _ rfl Q 0 rfl (polL l (.slice sa H sc)) _ RG0.out Try.underlying24 rfl SZP.out ?_)
              | (refine step_load rfl 39 _ rfl P2 0 rfl [.pointer (some ⟨R2, 0, none⟩), .slice a2 n2 c2] _ RGP.out Try.underlying39 rfl sizePr ?_)
              | (refine step_load rfl 30 _ rfl wr.heap.size 0 rfl (ocL o ox oc) _ RGO.out Try.underlying30 rfl sizeOp ?_))
            refine STP.out.mono ?_
            rintro e wb ⟨a, n, c, T, B, L, ys, Z, ba, bn, bc, pa, pn, pc, bl, rfl, Pb, kb, hbB, htT, hZ, hz, ho, hb1, hb2⟩
            obtain ⟨u5, v5, q5⟩ := UIa.out.1.p5
            have UFX := UFF.out
            have XP : Hid (Blk P2 39 [.pointer (some ⟨R2, 0, none⟩), .slice a2 n2 c2] wb ∧ Blk P5 45 [u5, v5] wb) := ⟨UIa.out.1.p2.kp kb (fun e => by obtain ⟨-, -, -, -, ⟨y1, y2, y3, y4, y5, y6⟩, -, -, -⟩ := UFX; exact y4 e), q5.kp kb (fun e => by obtain ⟨-, -, -, -, ⟨y1, y2, y3, y4, y5, y6⟩, -, -, -⟩ := UFX; exact y6 e)⟩
            have SB : Hid (Pr R2 bm2 B T (rul l hs) L ys a n c (i + 1) wb ∧ Kp (fun g => g = bm2) wa wb ∧ (∀ g, B g → B2 g ∨ wa.heap.size ≤ g) ∧ (∀ g, T g → T2 g ∨ wa.heap.size ≤ g) ∧ wa.heap.size ≤ Z ∧ (∀ g, B g ∨ T g → g < Z) ∧ HOut Z m wb bl (.slice ba bn bc) ⟨pa, pn, pc⟩ ∧ bl.length ≤ i ∧ pn ≤ i) := ⟨Pb, kb, hbB, htT, hZ, hz, ho, hb1, hb2⟩
            have ne5 : P5 ≠ P2 := by obtain ⟨-, -, -, ⟨q12, q15, q25⟩, -, -, -, -⟩ := UFX; exact q25.symm
            have NE5 : Hid (P5 ≠ P2) := ne5
            clear oc1 lto UFX ne5 q5 Pb kb hbB htT hZ hz ho hb1 hb2 STP RGP RG0 RGO
            go_upto_region 24 with (first
              | ((with_reducible refine at_store ?_); refine step_store rfl 39 _ _ rfl P2 0 39 [.pointer (some ⟨R2, 0, none⟩), .slice a2 n2 c2] [.pointer (some ⟨R2, 0, none⟩), .slice a n c] rfl rfl XP.out.1 (show 0 + 2 ≤ 2 by decide) sizePr (two_one _ _ rfl rfl) ?_; intro wc nbc g1; have z5 := XP.out.2.grown g1 (fun q => by injection q with q; exact NE5.out q.symm))
              | ((with_reducible refine at_store ?_); refine step_store rfl 45 _ _ rfl P5 0 45 [u5, v5] [.slice ba bn bc, .slice pa pn pc] rfl rfl z5 (show 0 + 2 ≤ 2 by decide) sizeOu (two_one _ _ rfl rfl) ?_; intro wd nbd g5))
            have SD : Hid (UI w.heap.size W0 Q P1 P2 P5 l (.slice sa H sc) (rul l hs) R1 bm1 B1 T1 L1 ys1 a1 n1 c1 R2 bm2 B T L ys a n c (i + 1) (.slice va vn vc) hd (.slice xa xn xc) ls wd ∧ Below w.heap.size w wd ∧ HOut Z m wd bl (.slice ba bn bc) ⟨pa, pn, pc⟩ ∧ Blk P5 45 [.slice ba bn bc, .slice pa pn pc] wd) := by
              obtain ⟨Pb, kb, hbB, htT, hZ, hz, ho, -, -⟩ := SB.out
              have x1 := blk_whole2 (Z := [.pointer (some ⟨R2, 0, none⟩), .slice a2 n2 c2]) (by simp) nbc
              have x5 := blk_whole2 (Z := [u5, v5]) (by simp) nbd
              have f := UFF.out
              have lo : P2 < W0 ∧ P5 < W0 ∧ w.heap.size ≤ P2 ∧ w.heap.size ≤ P5 ∧ w.heap.size ≤ bm2 := by have h1 := f.lt; have h2 := f.le; omega
              have zw : W0 ≤ Z := Nat.le_trans UIa.out.1.sz hZ
              refine ⟨((UIa.out.1).swap.stepped UFF.out.swap Pb kb hbB htT x1 g1 x5 g5).swap, below_kp (below_kp (below_kp UIa.out.2.1 kb (fun g e => by omega)) (Kp.of_grown g1) (fun g e => by injection e with e; omega)) (Kp.of_grown g5) (fun g e => by injection e with e; omega), (ho.kp (Kp.of_grown g1) (fun g hg e => by injection e with e; omega)).kp (Kp.of_grown g5) (fun g hg e => by injection e with e; omega), x5⟩
            clear nbc g1 z5 nbd g5 XP NE5
            have ZF : Hid (W0 ≤ Z ∧ (∀ g, (Value.slice va vn vc).ownBlock = some g → g < Z) ∧ (∀ g, (Value.slice xa xn xc).ownBlock = some g → g < Z) ∧ (∀ x ∈ ls, ∀ g, x.v.ownBlock = some g → g < Z) ∧ bl.length ≤ i ∧ pn ≤ i) := by
              obtain ⟨-, -, -, -, hZ, -, -, h1, h2⟩ := SB.out
              have h := UIa.out.1
              exact ⟨Nat.le_trans h.sz hZ, fun g e => Nat.lt_of_lt_of_le (own_lt h.all e) hZ, fun g e => Nat.lt_of_lt_of_le (own_lt h.lst e) hZ, fun x hx g e => Nat.lt_of_lt_of_le (h.fr g (.inr (.inr (.inr ⟨x, hx, e⟩)))).2.1 hZ, h1, h2⟩
            clear SB UIa OK RDO
            obtain rfl : vn = hd.length := own_len SD.out.1.all
            have HOLD : Hid (Calls Try.prog 13 #[.slice va hd.length vc, .slice ba bn bc, .int .u8 m] wd (HoldAns m bl hd (.slice va hd.length vc) W0 wd)) :=
              hold_at m bl hd va ba hd.length vc bn bc W0 wd SD.out.1.all SD.out.1.sz SD.out.2.2.1.rdv (fun g hg e => by have := ZF.out.2.1 g e; have := SD.out.2.2.1.vz g hg; omega) (by omega) (by have := ZF.out.2.2.2.2.1; omega) HM.out
            have b0 := SD.out.2.2.2.cell 0 _ rfl
            have l5 := SD.out.2.2.2.lt
            go_wp2_with fail
            refine HOLD.out.mono ?_
            rintro e we ⟨va', vn', vc', rfl, rh, kh, hh⟩
            have SE : Hid (UI w.heap.size W0 Q P1 P2 P5 l (.slice sa H sc) (rul l hs) R1 bm1 B1 T1 L1 ys1 a1 n1 c1 R2 bm2 B T L ys a n c (i + 1) (.slice va' vn' vc') (hd ++ hdOf m bl bl.length) (.slice xa xn xc) ls we ∧ Below w.heap.size w we ∧ Kl Z we ⟨pa, pn, pc⟩ ∧ Blk P5 45 [.slice ba bn bc, .slice pa pn pc] we ∧ (∀ g, (By.v ⟨pa, pn, pc⟩).ownBlock = some g → (Value.slice va' vn' vc').ownBlock ≠ some g)) := by
              have f := UFF.out
              obtain ⟨h1, h2⟩ := SD.out.1.held f SD.out.2.2.1 ZF.out.1 ZF.out.2.1 ZF.out.2.2.1 rh kh hh
              have lo : P5 < W0 ∧ w.heap.size ≤ W0 := by have h1 := f.lt; have h2 := f.le; omega
              refine ⟨h1, below_kp SD.out.2.1 kh (fun g e => by have := (own_heap SD.out.1.all e).1; omega), h2, SD.out.2.2.2.kp kh (fun e => by have := (own_heap SD.out.1.all e).1; omega), fun g hg e => ?_⟩
              obtain ⟨vs, r, -⟩ := SD.out.2.2.1.kl
              have z1 := (own_heap r hg).1
              have z2 := own_lt r hg
              rcases hh g e with q | q
              · have := ZF.out.2.1 g q; omega
              · omega
            have hdl : (hd ++ hdOf m bl bl.length).length ≤ (i + 1) * 1048600 := by
              have h1 := ZF.out.2.2.2.2.1
              rw [List.length_append]
              unfold hdOf
              rw [List.length_map, List.length_range]
              omega
            clear HOLD SD rh kh hh b0 l5
            have b1 := SE.out.2.2.2.1.cell 1 _ rfl
            have l5 := SE.out.2.2.2.1.lt
            have own7 := SE.out.1.lst
            have sz7 := SE.out.1.sz
            have on7 : ∀ u ∈ [Value.slice pa pn pc], u.oneCell' = true := by intro u hu; simp at hu; subst hu; rfl
            have k1 : ls.length + 1 ≤ maxLen := by have := HLL.out; unfold maxLen; omega
            have k2 : (ls.length + 1) * 24 ≤ 140737488355328 := by have := HLL.out; omega
            go_upto_region 18 with (at_builtin; refine wpList_pushR rfl (.tmp 120) (.tmp 123) 41 rfl 43 iL (.slice none 0 0) 1 24 Try.underlying41 hiL hL0 hL1 hL2 rfl (by decide) W0 (.slice xa xn xc) ls.length (ls.map By.v) [.slice pa pn pc] rfl on7 rfl own7 sz7 rfl k1 k2 ?_; intro xa' xn' xc' wf rf gf xf)
            have SF : Hid (UI w.heap.size W0 Q P1 P2 P5 l (.slice sa H sc) (rul l hs) R1 bm1 B1 T1 L1 ys1 a1 n1 c1 R2 bm2 B T L ys a n c (i + 1) (.slice va' vn' vc') (hd ++ hdOf m bl bl.length) (.slice xa' xn' xc') (ls ++ [⟨pa, pn, pc⟩]) wf ∧ Below w.heap.size w wf) := by
              have f := UFF.out
              have lo : w.heap.size ≤ W0 := f.le.2.2.2.2.2
              exact ⟨SE.out.1.listed f SE.out.2.2.1 (by show pn ≤ _; have := ZF.out.2.2.2.2.2; omega) ZF.out.1 ZF.out.2.2.1 ZF.out.2.2.2.1 rf gf xf SE.out.2.2.2.2, below_kp SE.out.2.1 (Kp.of_grown gf) (fun g e => by have := (own_heap SE.out.1.lst e).1; omega)⟩
            have ll : (ls ++ [(⟨pa, pn, pc⟩ : By)]).length = i + 1 := by rw [List.length_append]; show _ + 1 = _; rw [HLL.out]
            clear SE ZF own7 on7 rf gf xf b1 l5
            go_wp2_with fail
            go_roundw
            case rel => exact ⟨i + 1, B1, T1, L1, ys1, a1, n1, c1, B, T, L, ys, a, n, c, hd ++ hdOf m bl bl.length, ls ++ [⟨pa, pn, pc⟩], va', vn', vc', xa', xn', xc', by go_num, by omega, rfl, rfl, rfl, ll, hdl, SF⟩
            case measure => simp [intOf]; omega
        · obtain rfl : N = i := by omega
          have HELD : Hid (Calls Try.prog 14 #[.slice va vn vc] wr fun e w' => e = .returned (.bool true) ∧ ∃ m, w' = wr.drewN m) := held_at hd va vn vc W0 wr D.out.1.all (by omega) D.out.1.mks
          have KEPT : Hid (∀ m, Calls Try.prog 15 #[.slice xa xn xc] (wr.drewN m) fun e w' => e = .returned (.bool true) ∧ Below w.heap.size w w') := fun m => by
            have d := D.out.1
            have k0 : Kp (fun _ => False) wr (wr.drewN m) := Kp.drewN (Kp.refl _ _) m
            have r0 : RowV 43 W0 wr (.slice xa xn xc) (ls.map By.v) := by have := d.lst; rw [← List.length_map (f := By.v)] at this; exact this
            refine (kept_at ls xa xn xc W0 (wr.drewN m) ((RowV.rd r0).kp k0 (fun _ _ q => q)) d.sz (fun b hb => ⟨(d.kls b hb).1.kp k0 (fun _ _ q => q), (d.kls b hb).2⟩) d.lpw (fun b hb g hg => (d.fr g (.inr (.inr (.inr ⟨b, hb, hg⟩)))).2.2.2) (by have := HLL.out; omega)).mono fun e w' h => ⟨h.1, below_kp (below_drewN D.out.2 m) h.2 (fun g q => ?_)⟩
            obtain ⟨b, hb, e⟩ := q
            have := (d.fr g (.inr (.inr (.inr ⟨b, hb, e⟩)))).1
            have := UFF.out.le
            omega
          clear D RO HOK
          go_wp2_with fail
          refine HELD.out.mono ?_
          rintro e wx ⟨rfl, mm, rfl⟩
          go_wp2_with fail
          refine (KEPT.out mm).mono ?_
          rintro e wy ⟨rfl, by9⟩
          go_wp2_with fail
          go_ret
          exact ⟨rfl, by9⟩
end Go.Proofs.Yteppdlaoeoeplaa
