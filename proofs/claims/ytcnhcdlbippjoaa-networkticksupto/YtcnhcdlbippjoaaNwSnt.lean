/-
  Ours: a pair of networks as it lies; the statement's sent (gen_nwsnt.py).
-/
import Derived.Test.YtcnhcdlbippjoaaNwOwn
namespace Go.Proofs.Ytcnhcdlbippjoaa
open Go.RowKit NwM
theorem blk_kp {G : Nat} {ty : TypeId} {cs : List Value} {w w' : World} {M : Nat → Prop} (h : Blk G ty cs w) (k : Kp M w w') (hm : ¬ M G) : Blk G ty cs w' := (k.block G h.lt hm).trans h
theorem Rd.kpn {w w' : World} {v : Value} {vs : List Value} {M : Nat → Prop} (h : Rd w v vs) (k : Kp M w w') (hm : 0 < vs.length → ∀ g, v.ownBlock = some g → ¬ M g) : Rd w' v vs := by
  by_cases h0 : 0 < vs.length
  · exact h.kp k (hm h0)
  · obtain ⟨ao, cap, e, h1, h2, h3⟩ := h
    exact ⟨ao, cap, e, h1, h2, fun i hi => by omega⟩
/-- A network and the reference's. -/
structure PrA (R : Nat) (S B C : Nat → Prop) (t : Nt) (r : RNt) (aa : Option Addr) (an ac : Nat) (fa : Option Addr) (fn fc : Nat) (ma : Option Addr) (mn mc : Nat) (w : World) : Prop where
  net : NetAt R S B t w
  rv : RefV C w r aa an ac fa fn fc ma mn mc
  rel : Rel t r
  cs : ∀ g, C g → ¬ S g
theorem PrA.kp {R : Nat} {S B C : Nat → Prop} {t : Nt} {r : RNt} {aa : Option Addr} {an ac : Nat} {fa : Option Addr} {fn fc : Nat} {ma : Option Addr} {mn mc : Nat} {w w' : World} {M : Nat → Prop} (h : PrA R S B C t r aa an ac fa fn fc ma mn mc w) (k : Kp M w w') (hm : ∀ g, S g ∨ B g ∨ C g → ¬ M g) : PrA R S B C t r aa an ac fa fn fc ma mn mc w' := ⟨h.net.kp k (fun g q => hm g (.inl q)) (fun g q => hm g (.inr (.inl q))), h.rv.kp k (fun g q => hm g (.inr (.inr q))), h.rel, h.cs⟩
theorem PrA.lt {R : Nat} {S B C : Nat → Prop} {t : Nt} {r : RNt} {aa : Option Addr} {an ac : Nat} {fa : Option Addr} {fn fc : Nat} {ma : Option Addr} {mn mc : Nat} {w : World} (h : PrA R S B C t r aa an ac fa fn fc ma mn mc w) : ∀ g, S g ∨ B g ∨ C g → g < w.heap.size := fun g q => by
  rcases q with q | q | q
  · exact h.net.s q
  · exact (h.net.b q).1
  · exact h.rv.c g q
/-- What a step leaves of a pair. -/
structure PrPost (R : Nat) (S B C : Nat → Prop) (w : World) (t : Nt) (r : RNt) (S' B' C' : Nat → Prop) (aa : Option Addr) (an ac : Nat) (fa : Option Addr) (fn fc : Nat) (ma : Option Addr) (mn mc : Nat) (w' : World) : Prop where
  p : PrA R S' B' C' t r aa an ac fa fn fc ma mn mc w'
  s : ∀ g, S' g → S g ∨ w.heap.size ≤ g
  b : ∀ g, B' g → B g ∨ w.heap.size ≤ g
  c : ∀ g, C' g → C g ∨ w.heap.size ≤ g
  k : Kp S w w'
set_option maxRecDepth 40000 in
set_option maxHeartbeats 8000000 in
theorem sent_at {R : Nat} {S B C : Nat → Prop} {t : Nt} {r : RNt} {aa : Option Addr} {an ac : Nat} {fa : Option Addr} {fn fc : Nat} {ma : Option Addr} {mn mc : Nat} (o : OpN) (w : World) (h : PrA R S B C t r aa an ac fa fn fc ma mn mc w) (hr : RdB w (.slice o.xa o.xn o.xc) o.bs) (ho : 0 < o.bs.length → ∀ g, (Value.slice o.xa o.xn o.xc).ownBlock = some g → ¬ S g) (hb8 : 0 < o.bs.length → ∀ g, (Value.slice o.xa o.xn o.xc).ownBlock = some g → g < w.heap.size) (hl : o.bs.length ≤ 1000000000000) (hsz : sz t ≤ 999999999000) (hnow : t.now ≤ 1000000000) (hms : r.ms.length ≤ 1000000000) :
    Calls Try.prog 18 #[.agg #[.pointer (some ⟨R, 0, none⟩), .int .i64 ((r.now : Nat) : Int), .slice aa an ac, .slice fa fn fc, .slice ma mn mc], .agg #[.int .i64 o.kind, .bool o.other, .string o.lt, .int .i64 o.id, .bool o.ack, .slice o.xa o.xn o.xc]] w fun e w' => ∃ p q S' B' C' ab bn bc fb gn gc mb nn nc, e = .returned (.tuple #[.agg #[.pointer (some ⟨R, 0, none⟩), .int .i64 ((r.now : Nat) : Int), .slice ab bn bc, .slice fb gn gc, .slice mb nn nc], .bool true]) ∧ (p.ack = false ∧ p.id = o.id ∧ p.bs = o.bs) ∧ PrPost R S B C w (hand t p) (rhand r q) S' B' C' ab bn bc fb gn gc mb nn nc w' := by
  obtain ⟨i0, hi0, hz0, hz1, hz2⟩ := info_parts infoB
  have hon : o.bs.length = o.xn := by
    obtain ⟨_, _, ev, -, -⟩ := hr.len
    injection ev with _ ev _
    rw [ev, List.length_map]
  have HP : Hid (PrA R S B C t r aa an ac fa fn fc ma mn mc w) := h
  have HR : Hid (RdB w (.slice o.xa o.xn o.xc) o.bs ∧ (0 < o.bs.length → ∀ g, (Value.slice o.xa o.xn o.xc).ownBlock = some g → ¬ S g)) := ⟨hr, ho⟩
  have HL : Hid (o.bs.length ≤ 1000000000000 ∧ sz t ≤ 999999999000 ∧ t.now ≤ 1000000000 ∧ r.ms.length ≤ 1000000000 ∧ o.bs.length = o.xn) := ⟨hl, hsz, hnow, hms, hon⟩
  have hxn : o.xn ≤ 1000000000000 := by rw [← hon]; exact hl
  have HRB : Hid (0 < o.bs.length → ∀ g, (Value.slice o.xa o.xn o.xc).ownBlock = some g → g < w.heap.size) := fun h0 g hg => hb8 h0 g hg
  clear h hr ho hl hsz hnow hms hon hb8
  go_enter Try.func18, Try.ntmps18
  go_upto_region 1 with fail
  have K1 : Hid (Blk w.heap.size 37 [.pointer (some ⟨R, 0, none⟩), .int .i64 ((r.now : Nat) : Int), .slice aa an ac, .slice fa fn fc, .slice ma mn mc] (((w.alloc (.cells #[.pointer (some ⟨R, 0, none⟩), .int .i64 ((r.now : Nat) : Int), .slice aa an ac, .slice fa fn fc, .slice ma mn mc] 37)).alloc (.cells #[.int .i64 o.kind, .bool o.other, .string o.lt, .int .i64 o.id, .bool o.ack, .slice o.xa o.xn o.xc] 45)).alloc (.cells #[.pointer none, .int .i64 0, .slice none 0 0, .slice none 0 0, .slice none 0 0] 37)) ∧ Blk (w.heap.size + 1) 45 [.int .i64 o.kind, .bool o.other, .string o.lt, .int .i64 o.id, .bool o.ack, .slice o.xa o.xn o.xc] (((w.alloc (.cells #[.pointer (some ⟨R, 0, none⟩), .int .i64 ((r.now : Nat) : Int), .slice aa an ac, .slice fa fn fc, .slice ma mn mc] 37)).alloc (.cells #[.int .i64 o.kind, .bool o.other, .string o.lt, .int .i64 o.id, .bool o.ack, .slice o.xa o.xn o.xc] 45)).alloc (.cells #[.pointer none, .int .i64 0, .slice none 0 0, .slice none 0 0, .slice none 0 0] 37)) ∧ Blk (w.heap.size + 1 + 1) 37 [.pointer none, .int .i64 0, .slice none 0 0, .slice none 0 0, .slice none 0 0] (((w.alloc (.cells #[.pointer (some ⟨R, 0, none⟩), .int .i64 ((r.now : Nat) : Int), .slice aa an ac, .slice fa fn fc, .slice ma mn mc] 37)).alloc (.cells #[.int .i64 o.kind, .bool o.other, .string o.lt, .int .i64 o.id, .bool o.ack, .slice o.xa o.xn o.xc] 45)).alloc (.cells #[.pointer none, .int .i64 0, .slice none 0 0, .slice none 0 0, .slice none 0 0] 37)) ∧ (((w.alloc (.cells #[.pointer (some ⟨R, 0, none⟩), .int .i64 ((r.now : Nat) : Int), .slice aa an ac, .slice fa fn fc, .slice ma mn mc] 37)).alloc (.cells #[.int .i64 o.kind, .bool o.other, .string o.lt, .int .i64 o.id, .bool o.ack, .slice o.xa o.xn o.xc] 45)).alloc (.cells #[.pointer none, .int .i64 0, .slice none 0 0, .slice none 0 0, .slice none 0 0] 37)).heap.size = w.heap.size + 3) := ⟨((Blk.new _ _ _).old _).old _, (Blk.new2 _ _ _ _).old _, Blk.new3 _ _ _ _ _, by simp⟩
  have KB : Hid (Below w.heap.size w (((w.alloc (.cells #[.pointer (some ⟨R, 0, none⟩), .int .i64 ((r.now : Nat) : Int), .slice aa an ac, .slice fa fn fc, .slice ma mn mc] 37)).alloc (.cells #[.int .i64 o.kind, .bool o.other, .string o.lt, .int .i64 o.id, .bool o.ack, .slice o.xa o.xn o.xc] 45)).alloc (.cells #[.pointer none, .int .i64 0, .slice none 0 0, .slice none 0 0, .slice none 0 0] 37))) := below_trans (below_trans (below_alloc _ _) (below_alloc _ _)) (below_alloc _ _)
  obtain ⟨Q, hQ⟩ : ∃ Q, w.heap.size = Q := ⟨_, rfl⟩
  rw [hQ] at K1 ⊢
  have HQ : Hid (w.heap.size = Q) := hQ
  clear hQ
  generalize ((w.alloc (.cells #[.pointer (some ⟨R, 0, none⟩), .int .i64 ((r.now : Nat) : Int), .slice aa an ac, .slice fa fn fc, .slice ma mn mc] 37)).alloc (.cells #[.int .i64 o.kind, .bool o.other, .string o.lt, .int .i64 o.id, .bool o.ack, .slice o.xa o.xn o.xc] 45)).alloc (.cells #[.pointer none, .int .i64 0, .slice none 0 0, .slice none 0 0, .slice none 0 0] 37) = w1 at *
  have CP : Hid (Calls Try.prog 31 #[.slice o.xa o.xn o.xc] w1 (NewS w1 o.bs)) := copied_at o.bs _ w1 (by have := HL.out.1; omega) (Rd.later HR.out.1 KB.out)
  have p5 := K1.out.2.1.cell 5 _ rfl
  have lP := K1.out.2.1.lt
  go_wp2_with fail
  refine CP.out.mono ?_
  rintro e w2 ⟨a2, n2, c2, rfl, r2, b2⟩
  have ba := below_alloc w2 (.cells #[.int .u8 90, .int .u8 91, .int .u8 92] 5)
  have own1 : RowV 5 w1.heap.size (w2.alloc (.cells #[.int .u8 90, .int .u8 91, .int .u8 92] 5)) (.slice a2 n2 c2) (o.bs.map bv) := RowV.later r2 ba
  have b3 := below_trans b2 ba
  have hs3 : w1.heap.size ≤ (w2.alloc (.cells #[.int .u8 90, .int .u8 91, .int .u8 92] 5)).heap.size := b3.size
  have rd3 : Rd (w2.alloc (.cells #[.int .u8 90, .int .u8 91, .int .u8 92] 5)) (.slice (some ⟨w2.heap.size, 0, none⟩) 3 3) (tail3.map bv) := rd3N w2
  have one3 := one_bv tail3
  have l1 : (o.bs.map bv).length + (tail3.map bv).length ≤ maxLen := by rw [List.length_map, List.length_map, HL.out.2.2.2.2]; unfold maxLen; show _ + 3 ≤ _; omega
  have l2 : ((o.bs.map bv).length + (tail3.map bv).length) * 1 ≤ 140737488355328 := by rw [List.length_map, List.length_map, HL.out.2.2.2.2]; show (_ + 3) * 1 ≤ _; omega
  clear p5 lP CP r2
  obtain ⟨us, hus⟩ : ∃ us, tail3.map bv = us := ⟨_, rfl⟩
  obtain ⟨vs, hvs⟩ : ∃ vs, o.bs.map bv = vs := ⟨_, rfl⟩
  have HU : Hid (tail3.map bv = us ∧ o.bs.map bv = vs) := ⟨hus, hvs⟩
  rw [hus] at rd3 one3 l1 l2
  rw [hvs] at own1 l1 l2
  clear hus hvs b2 ba
  go_upto_region 2 with (at_builtin; refine wpList_catV rfl (.tmp 12) (.tmp 13) 31 rfl 5 i0 (.int .u8 0) 1 underB hi0 hz0 hz1 hz2 rfl w1.heap.size _ _ _ _ one3 rfl own1 hs3 rfl rd3 l1 l2 ?_; intro v3 w3 r3 g3)
  have B13 : Hid (Below w1.heap.size w1 w3) := below_grown b3 own1 (Nat.le_refl _) hs3 g3
  have R3 : Hid (RowB 5 w1.heap.size w3 v3 (o.bs ++ tail3)) := by show RowV _ _ _ _ _; rw [List.map_append, HU.out.1, HU.out.2]; exact r3
  obtain ⟨gf, cf, ef, hcf, -, -⟩ := RowV.own R3.out (by rw [List.length_map, List.length_append]; show 0 < _ + 3; omega)
  rw [List.length_map, List.length_append, HL.out.2.2.2.2, show tail3.length = 3 from rfl] at ef hcf
  subst ef
  clear own1 b3 hs3 rd3 one3 l1 l2 r3 g3 HU
  have GF : Hid (Q + 3 ≤ gf ∧ gf < w3.heap.size) := ⟨by have := R3.out.block_ge (g := gf) rfl; have := K1.out.2.2.2; omega, R3.out.block_lt (g := gf) rfl⟩
  have p5 := (K1.out.2.1.below B13.out).cell 5 _ rfl
  have p4 := (K1.out.2.1.below B13.out).cell 4 _ rfl
  have p3 := (K1.out.2.1.below B13.out).cell 3 _ rfl
  have lP := (K1.out.2.1.below B13.out).lt
  have x0 := (K1.out.1.below B13.out).cell 0 _ rfl
  have lX := (K1.out.1.below B13.out).lt
  have hnc : o.xn ≤ cf := by omega
  have B3 : Hid (Below w.heap.size w w3) := below_trans KB.out B13.out
  have RB3 : Hid (RdB w3 (.slice (some ⟨gf, 0, none⟩) o.xn cf) o.bs) := by
    have := Rd.cut (k := o.xn) (RowV.rd R3.out) (by omega)
    rw [← List.map_take, List.take_left' HL.out.2.2.2.2] at this
    exact this
  have SN : Hid (Calls Try.prog 32 #[.pointer (some ⟨R, 0, none⟩), .agg #[.bool o.ack, .int .i64 o.id, .slice (some ⟨gf, 0, none⟩) o.xn cf]] w3 (SendAns R S B t o.id o.bs w3)) := send_at R S B t o.ack o.id _ _ _ o.bs w3 (HP.out.net.below B3.out) RB3.out (by have := HL.out.1; omega) HL.out.2.1 (by have := HL.out.2.2.1; omega)
  go_wp2_with fail
  refine SN.out.mono ?_
  rintro e w4 ⟨rfl, S', B', p, np, hp⟩
  have NP : Hid (NPost R S B w3 (hand t p) S' B' w4 ∧ p.ack = false ∧ p.id = o.id ∧ p.bs = o.bs) := ⟨np, hp⟩
  have SQ : Hid (∀ g, S g → g < Q) := fun g hg => by have := HP.out.net.s hg; have := HQ.out; omega
  clear SN np hp p5 p4 p3 lP x0 lX RB3
  have K4 : Hid (Blk Q 37 [.pointer (some ⟨R, 0, none⟩), .int .i64 ((r.now : Nat) : Int), .slice aa an ac, .slice fa fn fc, .slice ma mn mc] w4 ∧ Blk (Q + 1) 45 [.int .i64 o.kind, .bool o.other, .string o.lt, .int .i64 o.id, .bool o.ack, .slice o.xa o.xn o.xc] w4 ∧ Blk (Q + 1 + 1) 37 [.pointer none, .int .i64 0, .slice none 0 0, .slice none 0 0, .slice none 0 0] w4) := ⟨blk_kp (K1.out.1.below B13.out) NP.out.1.k (fun q => by have := SQ.out _ q; omega), blk_kp (K1.out.2.1.below B13.out) NP.out.1.k (fun q => by have := SQ.out _ q; omega), blk_kp (K1.out.2.2.1.below B13.out) NP.out.1.k (fun q => by have := SQ.out _ q; omega)⟩
  have RV4 : Hid (RefV C w4 r aa an ac fa fn fc ma mn mc) := (HP.out.rv.below B3.out).kp NP.out.1.k HP.out.cs
  have RO4 : Hid (RdB w4 (.slice o.xa o.xn o.xc) o.bs) := Rd.kpn (Rd.later HR.out.1 B3.out) NP.out.1.k (fun h0 => HR.out.2 (by simpa using h0))
  have RF4 : Hid (RowB 5 w1.heap.size w4 (.slice (some ⟨gf, 0, none⟩) (o.xn + 3) cf) (o.bs ++ tail3)) := by
    refine RowV.kp R3.out NP.out.1.k (fun g hg q => ?_)
    have e' : gf = g := by simpa [Value.ownBlock] using hg
    have := SQ.out _ q
    have := GF.out
    omega
  have RS : Hid (Calls Try.prog 33 #[.agg #[.int .i64 ((r.now : Nat) : Int), .slice aa an ac, .slice fa fn fc, .slice ma mn mc], .agg #[.bool o.ack, .int .i64 o.id, .slice o.xa o.xn o.xc]] w4 fun e w' => ∃ p v', p.ack = false ∧ p.id = o.id ∧ p.bs = o.bs ∧ e = .returned v' ∧ RfPost C w4 (rhand r p) v' w') := rSend_at C r w4 _ o.ack o.id o.xa o.xn o.xc o.bs ⟨_, _, _, _, _, _, _, _, _, rfl, RV4.out⟩ RO4.out HL.out.1 (by rw [← HP.out.rel.now]; exact HL.out.2.2.1) HL.out.2.2.2.1 (fun f hf => HP.out.rel.fok f (by rw [HP.out.rel.fs]; exact hf))
  have p5 := K4.out.2.1.cell 5 _ rfl
  have p4 := K4.out.2.1.cell 4 _ rfl
  have p3 := K4.out.2.1.cell 3 _ rfl
  have lP := K4.out.2.1.lt
  have x1 := K4.out.1.cell 1 _ rfl
  have x2 := K4.out.1.cell 2 _ rfl
  have x3 := K4.out.1.cell 3 _ rfl
  have x4 := K4.out.1.cell 4 _ rfl
  have lX := K4.out.1.lt
  clear R3 K1 KB
  go_wp2_with fail
  refine RS.out.mono ?_
  rintro e w5 ⟨q, v5, q1, q2, q3, rfl, P5⟩
  obtain ⟨⟨C2, ⟨ab, bn, bc, fb, gn, gc, mb, nn, nc, e5, rv5⟩, hc2⟩, b5⟩ := P5
  rw [rhand_now] at e5
  subst e5
  have s6 := grownBy_trans (grownBy_trans (grownBy_trans (setCell_grown w5 Q 1 (.int .i64 ((r.now : Nat) : Int))) (setCell_grown _ Q 2 (.slice ab bn bc))) (setCell_grown _ Q 3 (.slice fb gn gc))) (setCell_grown _ Q 4 (.slice mb nn nc))
  have K5 : Hid (Blk Q 37 [.pointer (some ⟨R, 0, none⟩), .int .i64 ((r.now : Nat) : Int), .slice aa an ac, .slice fa fn fc, .slice ma mn mc] w5 ∧ Blk (Q + 1) 45 [.int .i64 o.kind, .bool o.other, .string o.lt, .int .i64 o.id, .bool o.ack, .slice o.xa o.xn o.xc] w5 ∧ Blk (Q + 1 + 1) 37 [.pointer none, .int .i64 0, .slice none 0 0, .slice none 0 0, .slice none 0 0] w5) := ⟨K4.out.1.below b5, K4.out.2.1.below b5, K4.out.2.2.below b5⟩
  have k6 := Kp.of_grown s6
  have S'Q : Hid (∀ g, S' g → g < Q ∨ w3.heap.size ≤ g) := fun g hg => (NP.out.1.s g hg).imp (SQ.out g) (fun q => q)
  have PQ : Hid (∀ g, S g ∨ B g ∨ C g → g < Q) := fun g hg => by have := HP.out.lt g hg; have := HQ.out; omega
  have S34 : Hid (w3.heap.size ≤ w4.heap.size ∧ Q + 3 ≤ w3.heap.size) := ⟨NP.out.1.k.size, by have := GF.out; omega⟩
  have C2Q : Hid (∀ g, C2 g → C g ∨ w4.heap.size ≤ g) := hc2
  have N6 : Hid (NetAt R S' B' (hand t p) ((((w5.setCell ⟨Q, 1, none⟩ (.int .i64 ((r.now : Nat) : Int))).setCell ⟨Q, 2, none⟩ (.slice ab bn bc)).setCell ⟨Q, 3, none⟩ (.slice fb gn gc)).setCell ⟨Q, 4, none⟩ (.slice mb nn nc)) ∧ RefV C2 ((((w5.setCell ⟨Q, 1, none⟩ (.int .i64 ((r.now : Nat) : Int))).setCell ⟨Q, 2, none⟩ (.slice ab bn bc)).setCell ⟨Q, 3, none⟩ (.slice fb gn gc)).setCell ⟨Q, 4, none⟩ (.slice mb nn nc)) (rhand r q) ab bn bc fb gn gc mb nn nc ∧ RdB ((((w5.setCell ⟨Q, 1, none⟩ (.int .i64 ((r.now : Nat) : Int))).setCell ⟨Q, 2, none⟩ (.slice ab bn bc)).setCell ⟨Q, 3, none⟩ (.slice fb gn gc)).setCell ⟨Q, 4, none⟩ (.slice mb nn nc)) (.slice o.xa o.xn o.xc) o.bs ∧ RowB 5 w1.heap.size ((((w5.setCell ⟨Q, 1, none⟩ (.int .i64 ((r.now : Nat) : Int))).setCell ⟨Q, 2, none⟩ (.slice ab bn bc)).setCell ⟨Q, 3, none⟩ (.slice fb gn gc)).setCell ⟨Q, 4, none⟩ (.slice mb nn nc)) (.slice (some ⟨gf, 0, none⟩) (o.xn + 3) cf) (o.bs ++ tail3) ∧ Kp (fun g => S g ∨ g = Q) w3 ((((w5.setCell ⟨Q, 1, none⟩ (.int .i64 ((r.now : Nat) : Int))).setCell ⟨Q, 2, none⟩ (.slice ab bn bc)).setCell ⟨Q, 3, none⟩ (.slice fb gn gc)).setCell ⟨Q, 4, none⟩ (.slice mb nn nc))) := by
    refine ⟨(NP.out.1.net.below b5).kp k6 (fun g hg e => ?_) (fun g hg e => ?_), rv5.kp k6 (fun g hg e => ?_), Rd.kpn (Rd.later RO4.out b5) k6 (fun h0 g hg e => ?_), RowV.kp (RowV.later RF4.out b5) k6 (fun g hg e => ?_), ?_⟩
    · injection e with e
      rcases S'Q.out g hg with z | z
      · omega
      · have := S34.out; omega
    · injection e with e
      rcases NP.out.1.b g hg with z | z
      · have := PQ.out g (.inr (.inl z)); omega
      · have := S34.out; omega
    · injection e with e
      rcases C2Q.out g hg with z | z
      · have := PQ.out g (.inr (.inr z)); omega
      · have := S34.out; omega
    · injection e with e
      have := HRB.out (by simpa using h0) g hg
      have := HQ.out
      omega
    · injection e with e
      have e' : gf = g := by simpa [Value.ownBlock] using hg
      have := GF.out
      omega
    · refine ((NP.out.1.k.trans (Kp.of_below b5 (fun _ => False)) (fun _ _ z => z.elim)).mono (fun g _ z => .inl z)).trans k6 (fun g _ e => .inr (by injection e with e; exact e.symm))
  have K6 : Hid (Blk Q 37 [.pointer (some ⟨R, 0, none⟩), .int .i64 ((r.now : Nat) : Int), .slice ab bn bc, .slice fb gn gc, .slice mb nn nc] ((((w5.setCell ⟨Q, 1, none⟩ (.int .i64 ((r.now : Nat) : Int))).setCell ⟨Q, 2, none⟩ (.slice ab bn bc)).setCell ⟨Q, 3, none⟩ (.slice fb gn gc)).setCell ⟨Q, 4, none⟩ (.slice mb nn nc)) ∧ Blk (Q + 1) 45 [.int .i64 o.kind, .bool o.other, .string o.lt, .int .i64 o.id, .bool o.ack, .slice o.xa o.xn o.xc] ((((w5.setCell ⟨Q, 1, none⟩ (.int .i64 ((r.now : Nat) : Int))).setCell ⟨Q, 2, none⟩ (.slice ab bn bc)).setCell ⟨Q, 3, none⟩ (.slice fb gn gc)).setCell ⟨Q, 4, none⟩ (.slice mb nn nc)) ∧ Blk (Q + 1 + 1) 37 [.pointer none, .int .i64 0, .slice none 0 0, .slice none 0 0, .slice none 0 0] ((((w5.setCell ⟨Q, 1, none⟩ (.int .i64 ((r.now : Nat) : Int))).setCell ⟨Q, 2, none⟩ (.slice ab bn bc)).setCell ⟨Q, 3, none⟩ (.slice fb gn gc)).setCell ⟨Q, 4, none⟩ (.slice mb nn nc))) := ⟨(((K5.out.1.set (i := 1) _).set (i := 2) _).set (i := 3) _).set (i := 4) _, K5.out.2.1.grown s6 (fun e => by injection e with e; omega), K5.out.2.2.grown s6 (fun e => by injection e with e; omega)⟩
  have y1 := K5.out.1.cell 1 _ rfl
  have y2 := K5.out.1.cell 2 _ rfl
  have y3 := K5.out.1.cell 3 _ rfl
  have y4 := K5.out.1.cell 4 _ rfl
  have lY := K5.out.1.lt
  have fY := K5.out.1.fz
  clear RS p5 p4 p3 lP x1 x2 x3 x4 lX rv5 hc2 b5 s6 k6 K4 RV4 RO4 RF4
  go_upto_region 5 with fail
  clear y1 y2 y3 y4 lY fY K5
  generalize (((w5.setCell ⟨Q, 1, none⟩ (.int .i64 ((r.now : Nat) : Int))).setCell ⟨Q, 2, none⟩ (.slice ab bn bc)).setCell ⟨Q, 3, none⟩ (.slice fb gn gc)).setCell ⟨Q, 4, none⟩ (.slice mb nn nc) = w6 at *
  have p5 := K6.out.2.1.cell 5 _ rfl
  have lP := K6.out.2.1.lt
  have RB6 : Hid (RdB w6 (.slice (some ⟨gf, 0, none⟩) o.xn cf) o.bs) := by
    have := Rd.cut (k := o.xn) (RowV.rd N6.out.2.2.2.1) (by omega)
    rw [← List.map_take, List.take_left' HL.out.2.2.2.2] at this
    exact this
  have SM1 : Hid (Calls Try.prog 34 #[.slice (some ⟨gf, 0, none⟩) o.xn cf, .slice o.xa o.xn o.xc] w6 fun e w' => e = .returned (.bool true) ∧ ∃ n, w' = w6.drewN n) := (same_at o.bs o.bs _ _ w6 (by have := HL.out.1; omega) RB6.out N6.out.2.2.1).mono fun e w' z => ⟨by rw [z.1]; simp, z.2⟩
  go_wp2_with fail
  refine SM1.out.mono ?_
  rintro e w7 ⟨rfl, k7, hw7⟩
  have b7 : Hid (Below w6.heap.size w6 w7) := by show Below _ _ _; rw [hw7]; exact below_drewN (Below.refl _ _) k7
  clear hw7 SM1 p5 lP RB6
  have p5 := (K6.out.2.1.below b7.out).cell 5 _ rfl
  have lP := (K6.out.2.1.below b7.out).lt
  have hnl : o.xn < cf := by omega
  go_wp2_with fail
  have RT7 : Hid (∀ W, Below w7.heap.size w7 W → RdB W (.slice (some ⟨gf, o.xn, none⟩) 3 (cf - o.xn)) tail3) := fun W b => by
    have z := RowV.rd (RowV.later (RowV.later N6.out.2.2.2.1 b7.out) b)
    have := Rd.tailN (xs := o.bs.map bv) (us := tail3.map bv) (L := o.xn) (by rw [List.map_append] at z; exact z) (by rw [List.length_map]; exact HL.out.2.2.2.2)
    exact this
  have SM2 : Hid (Calls Try.prog 34 #[.slice (some ⟨gf, o.xn, none⟩) 3 (cf - o.xn), .slice (some ⟨w7.heap.size, 0, none⟩) 3 3] (w7.alloc (.cells #[.int .u8 90, .int .u8 91, .int .u8 92] 5)) fun e w' => e = .returned (.bool true) ∧ ∃ n, w' = (w7.alloc (.cells #[.int .u8 90, .int .u8 91, .int .u8 92] 5)).drewN n) := (same_at tail3 tail3 _ _ _ (by decide) (RT7.out _ (below_alloc _ _)) (rd3N w7)).mono fun e w' z => ⟨by rw [z.1]; simp, z.2⟩
  refine SM2.out.mono ?_
  rintro e w8 ⟨rfl, k8, hw8⟩
  have b8 : Hid (Below w6.heap.size w6 w8) := by show Below _ _ _; rw [hw8]; exact below_drewN (below_trans b7.out (below_alloc _ _)) k8
  have RF8 : Hid (∃ cs : List Nat, cs.length = o.xn + 3 ∧ RowB 5 w1.heap.size w8 (.slice (some ⟨gf, 0, none⟩) (o.xn + 3) cf) cs) := ⟨_, by rw [List.length_append, HL.out.2.2.2.2]; rfl, RowV.later N6.out.2.2.2.1 b8.out⟩
  have K8 : Hid (Blk Q 37 [.pointer (some ⟨R, 0, none⟩), .int .i64 ((r.now : Nat) : Int), .slice ab bn bc, .slice fb gn gc, .slice mb nn nc] w8 ∧ Blk (Q + 1 + 1) 37 [.pointer none, .int .i64 0, .slice none 0 0, .slice none 0 0, .slice none 0 0] w8) := ⟨K6.out.1.below b8.out, K6.out.2.2.below b8.out⟩
  clear hw8 SM2 RT7 p5 lP b7
  go_wp2_with fail
  go_loopw [9] (fun vk wr => ∃ k : Nat, vk = .int .i64 (k : Int) ∧ k ≤ o.xn + 3 ∧ Hid (∃ cs : List Nat, cs.length = o.xn + 3 ∧ RowB 5 w1.heap.size wr (.slice (some ⟨gf, 0, none⟩) (o.xn + 3) cf) cs) ∧ Hid (Kp (fun g => g = gf) w8 wr)) (fun vk _ => o.xn + 3 - (intOf vk).toNat)
  case atStart => exact ⟨0, rfl, by omega, RF8, Kp.refl _ _⟩
  case round =>
    clear RF8
    obtain ⟨k, rfl, hk, hF, hK⟩ := hrel
    by_cases hlt : (k : Int) < (o.xn : Int) + 3
    · obtain ⟨cs, hc, hcr⟩ := hF.out
      obtain ⟨g1, cap1, e2, _, hcell, hfz⟩ := RowV.own hcr (by rw [List.length_map]; omega)
      have e2' : gf = g1 := by injection e2 with e2 _ _; injection e2 with e2; injection e2 with e2
      subst e2'
      obtain ⟨uu, cc⟩ : ∃ u, wr.cell? ⟨gf, k, none⟩ = some u := ⟨_, hcell k (by rw [List.length_map]; omega)⟩
      have ff := hfz k
      obtain ⟨s1, s2⟩ := rowV_set (i := k) (u := .int .u8 ((211 : Nat) : Int)) (by rw [List.length_map, hc]) hcr
      rw [map_set_bv] at s1
      have S1 : Hid (∃ cs : List Nat, cs.length = o.xn + 3 ∧ RowB 5 w1.heap.size (wr.setCell ⟨gf, k, none⟩ (.int .u8 211)) (.slice (some ⟨gf, 0, none⟩) (o.xn + 3) cf) cs) := ⟨cs.set k 211, by rw [List.length_set, hc], s1⟩
      have S2 : Hid (Kp (fun g => g = gf) w8 (wr.setCell ⟨gf, k, none⟩ (.int .u8 211))) := hK.out.trans (Kp.of_grown s2) (fun q _ e => by injection e with e; exact e.symm)
      clear s1 s2 e2 hcell hfz hcr hc hF hK
      go_wp2_with fail
      go_roundw
      case rel => exact ⟨k + 1, by go_num, by omega, S1, S2⟩
      case measure => simp [intOf]; omega
    · have q0 := (K8.out.1.kp hK.out (fun e => by have := GF.out; omega)).cell 0 _ rfl
      have q1' := (K8.out.1.kp hK.out (fun e => by have := GF.out; omega)).cell 1 _ rfl
      have q2' := (K8.out.1.kp hK.out (fun e => by have := GF.out; omega)).cell 2 _ rfl
      have q3' := (K8.out.1.kp hK.out (fun e => by have := GF.out; omega)).cell 3 _ rfl
      have q4' := (K8.out.1.kp hK.out (fun e => by have := GF.out; omega)).cell 4 _ rfl
      have lQ := (K8.out.1.kp hK.out (fun e => by have := GF.out; omega)).lt
      have Z8 : Hid (Blk (Q + 1 + 1) 37 [.pointer none, .int .i64 0, .slice none 0 0, .slice none 0 0, .slice none 0 0] wr) := K8.out.2.kp hK.out (fun e => by have := GF.out; omega)
      have d0 := Z8.out.cell 0 _ rfl
      have d1 := Z8.out.cell 1 _ rfl
      have d2 := Z8.out.cell 2 _ rfl
      have d3 := Z8.out.cell 3 _ rfl
      have d4 := Z8.out.cell 4 _ rfl
      have ff := Z8.out.fz
      have lZ := Z8.out.lt
      have s9 := grownBy_trans (grownBy_trans (grownBy_trans (grownBy_trans (setCell_grown wr (Q + 1 + 1) 0 (.pointer (some ⟨R, 0, none⟩))) (setCell_grown _ (Q + 1 + 1) 1 (.int .i64 ((r.now : Nat) : Int)))) (setCell_grown _ (Q + 1 + 1) 2 (.slice ab bn bc))) (setCell_grown _ (Q + 1 + 1) 3 (.slice fb gn gc))) (setCell_grown _ (Q + 1 + 1) 4 (.slice mb nn nc))
      have k9 := Kp.of_grown s9
      have B9 := (((((Z8.out.set (i := 0) (.pointer (some ⟨R, 0, none⟩))).set (i := 1) (.int .i64 ((r.now : Nat) : Int))).set (i := 2) (.slice ab bn bc)).set (i := 3) (.slice fb gn gc)).set (i := 4) (.slice mb nn nc))
      have FIN := (show Hid _ from B9)
      have PP : Hid (PrPost R S B C w (hand t p) (rhand r q) S' B' C2 ab bn bc fb gn gc mb nn nc (((((wr.setCell ⟨Q + 1 + 1, 0, none⟩ (.pointer (some ⟨R, 0, none⟩))).setCell ⟨Q + 1 + 1, 1, none⟩ (.int .i64 ((r.now : Nat) : Int))).setCell ⟨Q + 1 + 1, 2, none⟩ (.slice ab bn bc)).setCell ⟨Q + 1 + 1, 3, none⟩ (.slice fb gn gc)).setCell ⟨Q + 1 + 1, 4, none⟩ (.slice mb nn nc))) := by
        have far : ∀ g, (S' g ∨ B' g ∨ C2 g) → g < Q ∨ w3.heap.size ≤ g := fun g hg => by
          rcases hg with hg | hg | hg
          · exact S'Q.out g hg
          · rcases NP.out.1.b g hg with z | z
            · exact .inl (PQ.out g (.inr (.inl z)))
            · exact .inr z
          · rcases C2Q.out g hg with z | z
            · exact .inl (PQ.out g (.inr (.inr z)))
            · have := S34.out; exact .inr (by omega)
        have pa : PrA R S' B' C2 (hand t p) (rhand r q) ab bn bc fb gn gc mb nn nc w6 := ⟨N6.out.1, N6.out.2.1, HP.out.rel.hand (by unfold pk0; rw [NP.out.2.1, NP.out.2.2.1, NP.out.2.2.2, q1, q2, q3]), fun g hg hs => by
          rcases C2Q.out g hg with z | z
          · rcases NP.out.1.s g hs with y | y
            · exact HP.out.cs g z y
            · have := PQ.out g (.inr (.inr z)); have := S34.out; omega
          · have := NP.out.1.net.s hs; omega⟩
        have hsz : w.heap.size ≤ w3.heap.size := B3.out.size
        refine ⟨((pa.kp (Kp.of_below b8.out (fun _ => False)) (fun _ _ z => z)).kp hK.out (fun g hg e => ?_)).kp k9 (fun g hg e => ?_), fun g hg => ?_, fun g hg => ?_, fun g hg => ?_, ?_⟩
        · have := far g hg; have := GF.out; omega
        · injection e with e
          have := far g hg; have := S34.out; omega
        · exact (NP.out.1.s g hg).imp (fun z => z) (fun z => by omega)
        · exact (NP.out.1.b g hg).imp (fun z => z) (fun z => by omega)
        · exact (C2Q.out g hg).imp (fun z => z) (fun z => by have := S34.out; omega)
        · have hQ := HQ.out
          refine (((((Kp.of_below B3.out S).trans N6.out.2.2.2.2 (fun g lt e => ?_)).trans (Kp.of_below b8.out (fun _ => False)) (fun _ _ z => z.elim)).trans hK.out (fun g lt e => ?_)).trans k9 (fun g lt e => ?_))
          · rcases e with e | e
            · exact e
            · omega
          · have := GF.out; omega
          · injection e with e; omega
      clear B9 s9 k9 hK hF Z8
      go_wp2_with fail
      exact ret_blk_tmp rfl rfl (Q + 1 + 1) _ [.pointer (some ⟨R, 0, none⟩), .int .i64 ((r.now : Nat) : Int), .slice ab bn bc, .slice fb gn gc, .slice mb nn nc] _ rfl FIN.out Try.underlying37 rfl (by kernel_rfl) ⟨p, q, S', B', C2, ab, bn, bc, fb, gn, gc, mb, nn, nc, rfl, NP.out.2, PP.out⟩
end Go.Proofs.Ytcnhcdlbippjoaa
