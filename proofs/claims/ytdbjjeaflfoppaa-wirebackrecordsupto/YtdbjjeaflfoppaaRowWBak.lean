/-
  Ours, in the frame that the kit's shell program lays: the row of WireBackRecords (upto) from its walk (mkwst.py).
-/
import Derived.Test.YtdbjjeaflfoppaaWirRd4
import Derived.Test.YtdbjjeaflfoppaaWirOpenT
namespace Go.Proofs.Ytdbjjeaflfoppaa
open Go.RowKit WsM

theorem csD_pin : Pin CsOk csD := fun x y r s ox oy h => by
  unfold csD at h
  simp only [List.append_assoc] at h
  obtain ⟨e1, h⟩ := putI_pin h
  obtain ⟨e2, h⟩ := putB_pin h
  obtain ⟨e3, h⟩ := putFs_pin (ox.2.2.1.trans oy.2.2.1.symm) h
  refine ⟨?_, h⟩
  obtain ⟨a, b, c⟩ := x
  obtain ⟨a', b', c'⟩ := y
  simp only at e1 e2 e3
  rw [e1, e2, e3]
theorem insL_pin : Pin (fun xs : List Ins => ∀ x ∈ xs, x.Ok) (lsB insB) := list_pin ins_pin
/-- A stage of a reading: what was read behind the one before. -/
abbrev Stg {α : Type} (f : α → List Nat) (Ok : α → Prop) (bs : List Nat) (s s' : Option Nat) (x : α) : Prop := (s = none → s' = none) ∧ ∀ q, s = some q → Got f Ok bs q s' x
theorem ln_got {bs : List Nat} {p : Nat} {s1 s2 s3 s4 s5 s6 s7 s8 s9 : Option Nat} {id : Int} {tm : List Int} {pl : List Ins} {bk : List Int} {cd : CsD} {d3 la : List Int} {hl : Bool} {c2 : List Int}
    (g1 : Got putI I64 bs p s1 id) (g2 : Stg putFs (fun xs : List Int => xs.length = 6 ∧ I64s xs) bs s1 s2 tm) (g3 : Stg (lsB insB) (fun xs : List Ins => ∀ x ∈ xs, x.Ok) bs s2 s3 pl) (g4 : Stg putFs (fun xs : List Int => xs.length = 12 ∧ I64s xs) bs s3 s4 bk)
    (g5 : Stg csD CsOk bs s4 s5 cd) (g6 : Stg putFs (fun xs : List Int => xs.length = 3 ∧ I64s xs) bs s5 s6 d3) (g7 : Stg putFs (fun xs : List Int => xs.length = 5 ∧ I64s xs) bs s6 s7 la) (g8 : Stg putB (fun _ : Bool => True) bs s7 s8 hl) (g9 : Stg putFs (fun xs : List Int => xs.length = 2 ∧ I64s xs) bs s8 s9 c2) :
    Got lnB Ln.Ok bs p s9 ⟨id, tm, pl, bk, cd.1, cd.2.1, cd.2.2, d3, la, hl, c2⟩ := by
  have h8 := fun q (hq : s7 = some q) => Got.seq putB_pinP (g8.2 q hq) g9.2 g9.1
  have n8 : s7 = none → s9 = none := fun e => g9.1 (g8.1 e)
  have h7 := fun q (hq : s6 = some q) => Got.seq (putFs_pinP 5) (g7.2 q hq) h8 n8
  have n7 : s6 = none → s9 = none := fun e => n8 (g7.1 e)
  have h6 := fun q (hq : s5 = some q) => Got.seq (putFs_pinP 3) (g6.2 q hq) h7 n7
  have n6 : s5 = none → s9 = none := fun e => n7 (g6.1 e)
  have h5 := fun q (hq : s4 = some q) => Got.seq csD_pin (g5.2 q hq) h6 n6
  have n5 : s4 = none → s9 = none := fun e => n6 (g5.1 e)
  have h4 := fun q (hq : s3 = some q) => Got.seq (putFs_pinP 12) (g4.2 q hq) h5 n5
  have n4 : s3 = none → s9 = none := fun e => n5 (g4.1 e)
  have h3 := fun q (hq : s2 = some q) => Got.seq insL_pin (g3.2 q hq) h4 n4
  have n3 : s2 = none → s9 = none := fun e => n4 (g3.1 e)
  have h2 := fun q (hq : s1 = some q) => Got.seq (putFs_pinP 6) (g2.2 q hq) h3 n3
  have n2 : s1 = none → s9 = none := fun e => n3 (g2.1 e)
  have h1 := Got.seq putI_pinP g1 h2 n2
  refine Got.iso (g := lnB) (OB := Ln.Ok) (fun a : Int × (List Int × (List Ins × (List Int × (CsD × (List Int × (List Int × (Bool × List Int))))))) => (⟨a.1, a.2.1, a.2.2.1, a.2.2.2.1, a.2.2.2.2.1.1, a.2.2.2.2.1.2.1, a.2.2.2.2.1.2.2, a.2.2.2.2.2.1, a.2.2.2.2.2.2.1, a.2.2.2.2.2.2.2.1, a.2.2.2.2.2.2.2.2⟩ : Ln)) ?_ (fun l ol => ⟨(l.id, (l.tm, (l.pl, (l.bk, ((l.st, (l.su, l.cs)), (l.d3, (l.la, (l.hl, l.c2)))))))), ?_, rfl⟩) (fun a oa => ?_) h1
  · intro a; rfl
  · exact ⟨ol.id _ (by simp), ⟨ol.tmL, ol.tm⟩, ol.pl, ⟨ol.bkL, ol.bk⟩, ⟨ol.st _ (by simp), trivial, ol.csL, ol.cs⟩, ⟨ol.d3L, ol.d3⟩, ⟨ol.laL, ol.la⟩, trivial, ⟨ol.c2L, ol.c2⟩⟩
  · obtain ⟨a1, ⟨a2, a3⟩, a4, ⟨a5, a6⟩, ⟨a7, _, a8, a9⟩, ⟨a10, a11⟩, ⟨a12, a13⟩, _, ⟨a14, a15⟩⟩ := oa
    exact ⟨fun z hz => by simp at hz; rw [hz]; exact a1, a2, a3, a4, a5, a6, fun z hz => by simp at hz; rw [hz]; exact a7, a8, a9, a10, a11, a12, a13, a14, a15⟩
theorem built_ln (id : Int) (tm : List Int) (a : Option Addr) (n c : Nat) (pl : List Ins) (bk : List Int) (cd : CsD) (d0 d1 d2 : Int) (la : List Int) (hl : Bool) (e0 e1 : Int) : Try.prog.built 65 [(0, .int .i64 id), (1, .agg (i6 tm).toArray), (2, .slice a n c), (3, .agg (i12 bk).toArray), (4, .agg (cs15 cd.1 cd.2.1 cd.2.2).toArray), (5, .int .i64 d0), (6, .int .i64 d1), (7, .int .i64 d2), (8, .agg (i5 la).toArray), (9, .bool hl), (10, .int .i64 e0), (11, .int .i64 e1)] = some (lnL ⟨id, tm, pl, bk, cd.1, cd.2.1, cd.2.2, [d0, d1, d2], la, hl, [e0, e1]⟩ (.slice a n c)).toArray := by kernel_rfl
theorem step_build12 {P : Program} {ops : Array Oper} {rest : List Oper} {op : Oper} {a : Act} {w : World} {Q : Exit → Act → World → Prop} (hgd : op.guard = none) (ty : TypeId) (x0 x1 x2 x3 x4 x5 x6 x7 x8 x9 x10 x11 : Operand) (ho : op.op = .build ty #[(0, x0), (1, x1), (2, x2), (3, x3), (4, x4), (5, x5), (6, x6), (7, x7), (8, x8), (9, x9), (10, x10), (11, x11)]) (u0 u1 u2 u3 u4 u5 u6 u7 u8 u9 u10 u11 : Value) (h0 : a.eval x0 = u0) (h1 : a.eval x1 = u1) (h2 : a.eval x2 = u2) (h3 : a.eval x3 = u3) (h4 : a.eval x4 = u4) (h5 : a.eval x5 = u5) (h6 : a.eval x6 = u6) (h7 : a.eval x7 = u7) (h8 : a.eval x8 = u8) (h9 : a.eval x9 = u9) (h10 : a.eval x10 = u10) (h11 : a.eval x11 = u11) (v : Value)
    (hr : (Instr.build ty #[(0, u0), (1, u1), (2, u2), (3, u3), (4, u4), (5, u5), (6, u6), (7, u7), (8, u8), (9, u9), (10, u10), (11, u11)]).run P w = .ok v w) (h : wpList P ops Q rest (a.put op.dst v) w) : wpList P ops Q (op :: rest) a w :=
  wpList_plain hgd fun _ hK => by
    unfold Oper.wp execOp
    simp only [ho, h0, h1, h2, h3, h4, h5, h6, h7, h8, h9, h10, h11, List.map_toArray, List.map_cons, List.map_nil, Sem.run_bind, Sem.run_pure, Result.andThen_ok, hr]
    exact hK _ _ h
theorem at_build {P : Program} {ops : Array Oper} {rest : List Oper} {a : Act} {w : World} {Q : Exit → Act → World → Prop} {dst : Option Tmp} (ty : TypeId) {t : TypeId} {ps : Array (Nat × Operand)} {pos : String} {af : Array Edge}
    (h : wpList P ops Q ({ dst := dst, op := .build ty ps, type := t, pos := pos, after := af, guard := none } :: rest) a w) : wpList P ops Q ({ dst := dst, op := .build ty ps, type := t, pos := pos, after := af, guard := none } :: rest) a w := h
/-- What the reader of a loan answers: the loan, its plan in new memory. -/
def LnAns (bs : List Nat) (R : Nat) (v : Value) (p : Nat) (w : World) (e : Ending) (w' : World) : Prop :=
  ∃ (l : Ln) (a : Option Addr) (n c : Nat) (y : Int) (st' : Option Nat), e = .returned (.tuple #[.agg (lnL l (.slice a n c)).toArray, .int .i64 y, .bool st'.isSome]) ∧ (∀ q, st' = some q → y = (q : Int)) ∧ RS bs R v st' w' ∧ w.grownBy w' (some R) ∧ RdS 4 w' (.slice a n c) (l.pl.map insL) ∧ (∀ g, (Value.slice a n c).ownBlock = some g → w.heap.size ≤ g ∧ g < w'.heap.size) ∧ Got lnB Ln.Ok bs p st' l
set_option maxRecDepth 40000 in
set_option maxHeartbeats 8000000 in
theorem loan_at (bs : List Nat) (hb : ∀ c ∈ bs, c < 256) (hl : bs.length ≤ 1000000000000) (R : Nat) (v : Value) (p : Nat) (w : World) (h : Seeks bs R v p w) :
    Calls Try.prog 54 #[.pointer (some ⟨R, 0, none⟩), v, .int .i64 (p : Int)] w (LnAns bs R v p w) := by
  have CI : Hid (∀ W s, RS bs R v s W → Calls Try.prog 74 #[.pointer (some ⟨R, 0, none⟩)] W fun e w' => ∃ n s', e = .returned (.int .i64 n) ∧ tkI bs s = (n, s') ∧ RS bs R v s' w' ∧ W.grownBy w' (some R)) := fun W s hs => (number_at bs hb hl R v s W hs).mono fun e w' ⟨h1, h2, h3⟩ => ⟨_, _, h1, rfl, h2, h3⟩
  have CC : Hid (∀ W s, RS bs R v s W → Calls Try.prog 80 #[.pointer (some ⟨R, 0, none⟩)] W fun e w' => ∃ n s', e = .returned (.int .i64 n) ∧ tkI bs s = (n, s') ∧ RS bs R v s' w' ∧ W.grownBy w' (some R)) := fun W s hs => (cents_at bs hb hl R v s W hs).mono fun e w' ⟨h1, h2, h3⟩ => ⟨_, _, h1, rfl, h2, h3⟩
  have CB : Hid (∀ W s, RS bs R v s W → Calls Try.prog 82 #[.pointer (some ⟨R, 0, none⟩)] W fun e w' => ∃ n s', e = .returned (.bool n) ∧ tkB bs s = (n, s') ∧ RS bs R v s' w' ∧ W.grownBy w' (some R)) := fun W s hs => (truth_at bs hb hl R v s W hs).mono fun e w' ⟨h1, h2, h3⟩ => ⟨_, _, h1, rfl, h2, h3⟩
  have CT : Hid (∀ W s, RS bs R v s W → Calls Try.prog 75 #[.pointer (some ⟨R, 0, none⟩)] W (RdAns i6 putFs (fun xs : List Int => xs.length = 6 ∧ I64s xs) bs R v s W)) := fun W s hs => terms_at bs hb hl R v s W hs
  have CL : Hid (∀ W s, RS bs R v s W → Calls Try.prog 76 #[.pointer (some ⟨R, 0, none⟩), .func (.func 77) #[.pointer (some ⟨R, 0, none⟩)] #[]] W (TkAns 4 insL insB Ins.Ok bs R v s W)) := fun W s hs => takeListIns_at bs hb hl R v s W hs
  have CK : Hid (∀ W s, RS bs R v s W → Calls Try.prog 78 #[.pointer (some ⟨R, 0, none⟩)] W (RdAns i12 putFs (fun xs : List Int => xs.length = 12 ∧ I64s xs) bs R v s W)) := fun W s hs => book_at bs hb hl R v s W hs
  have CS : Hid (∀ W s, RS bs R v s W → Calls Try.prog 79 #[.pointer (some ⟨R, 0, none⟩)] W (RdAns (fun c : CsD => cs15 c.1 c.2.1 c.2.2) csD CsOk bs R v s W)) := fun W s hs => case_at bs hb hl R v s W hs
  have CP : Hid (∀ W s, RS bs R v s W → Calls Try.prog 81 #[.pointer (some ⟨R, 0, none⟩)] W (RdAns i5 putFs (fun xs : List Int => xs.length = 5 ∧ I64s xs) bs R v s W)) := fun W s hs => parts_at bs hb hl R v s W hs
  have hmf : ∀ (fn : Fn) (first cap : Array Value) (w : World), (Instr.makeFunc fn first cap).run Try.prog w = .ok (.func fn first cap) w := fun _ _ _ _ => rfl
  have HB : Hid (∀ c ∈ bs, c < 256) := hb
  obtain ⟨hR, hV, hS⟩ := h
  have SK : Hid (∀ W, Below w.heap.size w W → Calls Try.prog 68 #[.pointer (some ⟨R, 0, none⟩), v, .int .i64 (p : Int)] W fun e w' => e = .returned (.tuple #[]) ∧ RS bs R v (some p) w' ∧ W.grownBy w' (some R)) := hS
  have DV : Hid (0 < bs.length → v.ownBlock = some w.heap.size → False) := fun h0 e => by have := hV h0 _ e; omega
  have DW : Hid (∀ g, w.heap.size ≤ g → 0 < bs.length → v.ownBlock = some g → False) := fun g hg h0 e => by have := hV h0 _ e; omega
  have B0 : Hid (Blk w.heap.size 65 zLn (w.alloc (.cells zLn.toArray 65))) := Blk.new _ _ _
  have BW : Hid (Below w.heap.size w (w.alloc (.cells zLn.toArray 65))) := below_alloc _ _
  have huT := Try.underlying65
  clear hb hl hV hS
  go_enter Try.func54, Try.ntmps54
  go_upto_region 1 with fail
  generalize w.alloc (.cells zLn.toArray 65) = W0 at *
  obtain ⟨D, hD⟩ : ∃ D, w.heap.size = D := ⟨_, rfl⟩
  have HD : Hid (w.heap.size = D) := hD
  rw [hD] at B0 DV ⊢
  have RD : Hid (R ≠ D) := by show _ ≠ _; omega
  have LD : Hid (R < D) := by show _ < _; omega
  clear hD hR
  go_wp2_with fail
  refine (SK.out _ BW.out).mono ?_
  rintro e w1 ⟨rfl, k, g⟩
  have K1 : Hid (RS bs R v (some p) w1) := k
  have D1 : Hid (Blk D 65 zLn w1) := B0.out.grown g RD.out
  have G1 : Hid (w.grownBy w1 (some R)) := grownBy_trans (grownBy_below BW.out _) g
  have HPP : Hid (p ≤ bs.length) := k.le p rfl
  clear k g B0 BW SK
  go_wp2_with fail
  refine (CI.out _ _ K1.out).mono ?_
  rintro e w2 ⟨id, t1, rfl, eqx, k, g⟩
  have E0 : Hid (tkI bs (some p) = (id, t1)) := eqx
  have K2 : Hid (RS bs R v t1 w2) := k
  have D2 : Hid (Blk D 65 zLn w2) := D1.out.grown g RD.out
  have G2 : Hid (w.grownBy w2 (some R)) := grownBy_trans G1.out g
  clear k g eqx K1 D1 G1
  go_wp2_with fail
  refine (CT.out _ _ K2.out).mono ?_
  rintro e w3 ⟨tm, t2, rfl, k, g, gn, gt⟩
  have E1 : Hid (Stg putFs (fun xs : List Int => xs.length = 6 ∧ I64s xs) bs t1 t2 tm) := ⟨gn, gt⟩
  have K3 : Hid (RS bs R v t2 w3) := k
  have D3 : Hid (Blk D 65 zLn w3) := D2.out.grown g RD.out
  have G3 : Hid (w.grownBy w3 (some R)) := grownBy_trans G2.out g
  clear k g gn gt K2 D2 G2
  go_wp2_with fail
  refine (CL.out _ _ K3.out).mono ?_
  rintro e w4 ⟨a, n, c, pl, t3, rfl, rp, rb, k, g, gn, gt⟩
  have E2 : Hid (Stg (lsB insB) (fun xs : List Ins => ∀ x ∈ xs, x.Ok) bs t2 t3 pl) := ⟨gn, gt⟩
  have K4 : Hid (RS bs R v t3 w4) := k
  have D4 : Hid (Blk D 65 zLn w4) := D3.out.grown g RD.out
  have G4 : Hid (w.grownBy w4 (some R)) := grownBy_trans G3.out g
  have P4 : Hid (RdS 4 w4 (.slice a n c) (pl.map insL)) := rp
  have PND : Hid (∀ g, (Value.slice a n c).ownBlock = some g → ¬ g = D) := fun z hz e => by have := rb z hz; have := D3.out.lt; omega
  have PB4 : Hid (∀ g, (Value.slice a n c).ownBlock = some g → w.heap.size ≤ g ∧ g < w4.heap.size) := fun z hz => by have := rb z hz; have := G3.out.size; omega
  clear k g gn gt rp rb K3 D3 G3
  go_wp2_with fail
  refine (CK.out _ _ K4.out).mono ?_
  rintro e w5 ⟨bk, t4, rfl, k, g, gn, gt⟩
  have E3 : Hid (Stg putFs (fun xs : List Int => xs.length = 12 ∧ I64s xs) bs t3 t4 bk) := ⟨gn, gt⟩
  have K5 : Hid (RS bs R v t4 w5) := k
  have D5 : Hid (Blk D 65 zLn w5) := D4.out.grown g RD.out
  have G5 : Hid (w.grownBy w5 (some R)) := grownBy_trans G4.out g
  have P5 : Hid (RdS 4 w5 (.slice a n c) (pl.map insL)) := P4.out.grown g (fun z hz e => by have := PB4.out z hz; have := LD.out; have := HD.out; injection e with e; omega)
  have PB5 : Hid (∀ g, (Value.slice a n c).ownBlock = some g → w.heap.size ≤ g ∧ g < w5.heap.size) := fun z hz => by have := PB4.out z hz; have := g.size; omega
  clear k g gn gt K4 D4 G4 P4 PB4
  go_wp2_with fail
  refine (CS.out _ _ K5.out).mono ?_
  rintro e w6 ⟨cd, t5, rfl, k, g, gn, gt⟩
  have E4 : Hid (Stg csD CsOk bs t4 t5 cd) := ⟨gn, gt⟩
  have LE5 : Hid (∀ q, t5 = some q → q ≤ bs.length) := fun q hq => k.le q hq
  have K6 : Hid (RS bs R v t5 w6) := k
  have D6 : Hid (Blk D 65 zLn w6) := D5.out.grown g RD.out
  have G6 : Hid (w.grownBy w6 (some R)) := grownBy_trans G5.out g
  have P6 : Hid (RdS 4 w6 (.slice a n c) (pl.map insL)) := P5.out.grown g (fun z hz e => by have := PB5.out z hz; have := LD.out; have := HD.out; injection e with e; omega)
  have PB6 : Hid (∀ g, (Value.slice a n c).ownBlock = some g → w.heap.size ≤ g ∧ g < w6.heap.size) := fun z hz => by have := PB5.out z hz; have := g.size; omega
  clear k g gn gt K5 D5 G5 P5 PB5
  go_wp2_with fail
  refine (CI.out _ _ K6.out).mono ?_
  rintro e w7 ⟨d0, t6, rfl, eqx, k, g⟩
  have E5 : Hid (tkI bs t5 = (d0, t6)) := eqx
  have K7 : Hid (RS bs R v t6 w7) := k
  have D7 : Hid (Blk D 65 zLn w7) := D6.out.grown g RD.out
  have G7 : Hid (w.grownBy w7 (some R)) := grownBy_trans G6.out g
  have P7 : Hid (RdS 4 w7 (.slice a n c) (pl.map insL)) := P6.out.grown g (fun z hz e => by have := PB6.out z hz; have := LD.out; have := HD.out; injection e with e; omega)
  have PB7 : Hid (∀ g, (Value.slice a n c).ownBlock = some g → w.heap.size ≤ g ∧ g < w7.heap.size) := fun z hz => by have := PB6.out z hz; have := g.size; omega
  clear k g eqx K6 D6 G6 P6 PB6
  go_wp2_with fail
  refine (CC.out _ _ K7.out).mono ?_
  rintro e w8 ⟨d1, t7, rfl, eqx, k, g⟩
  have E6 : Hid (tkI bs t6 = (d1, t7)) := eqx
  have K8 : Hid (RS bs R v t7 w8) := k
  have D8 : Hid (Blk D 65 zLn w8) := D7.out.grown g RD.out
  have G8 : Hid (w.grownBy w8 (some R)) := grownBy_trans G7.out g
  have P8 : Hid (RdS 4 w8 (.slice a n c) (pl.map insL)) := P7.out.grown g (fun z hz e => by have := PB7.out z hz; have := LD.out; have := HD.out; injection e with e; omega)
  have PB8 : Hid (∀ g, (Value.slice a n c).ownBlock = some g → w.heap.size ≤ g ∧ g < w8.heap.size) := fun z hz => by have := PB7.out z hz; have := g.size; omega
  clear k g eqx K7 D7 G7 P7 PB7
  go_wp2_with fail
  refine (CC.out _ _ K8.out).mono ?_
  rintro e w9 ⟨d2, t8, rfl, eqx, k, g⟩
  have E7 : Hid (tkI bs t7 = (d2, t8)) := eqx
  have K9 : Hid (RS bs R v t8 w9) := k
  have D9 : Hid (Blk D 65 zLn w9) := D8.out.grown g RD.out
  have G9 : Hid (w.grownBy w9 (some R)) := grownBy_trans G8.out g
  have P9 : Hid (RdS 4 w9 (.slice a n c) (pl.map insL)) := P8.out.grown g (fun z hz e => by have := PB8.out z hz; have := LD.out; have := HD.out; injection e with e; omega)
  have PB9 : Hid (∀ g, (Value.slice a n c).ownBlock = some g → w.heap.size ≤ g ∧ g < w9.heap.size) := fun z hz => by have := PB8.out z hz; have := g.size; omega
  clear k g eqx K8 D8 G8 P8 PB8
  go_wp2_with fail
  refine (CP.out _ _ K9.out).mono ?_
  rintro e w10 ⟨la, t9, rfl, k, g, gn, gt⟩
  have E8 : Hid (Stg putFs (fun xs : List Int => xs.length = 5 ∧ I64s xs) bs t8 t9 la) := ⟨gn, gt⟩
  have K10 : Hid (RS bs R v t9 w10) := k
  have D10 : Hid (Blk D 65 zLn w10) := D9.out.grown g RD.out
  have G10 : Hid (w.grownBy w10 (some R)) := grownBy_trans G9.out g
  have P10 : Hid (RdS 4 w10 (.slice a n c) (pl.map insL)) := P9.out.grown g (fun z hz e => by have := PB9.out z hz; have := LD.out; have := HD.out; injection e with e; omega)
  have PB10 : Hid (∀ g, (Value.slice a n c).ownBlock = some g → w.heap.size ≤ g ∧ g < w10.heap.size) := fun z hz => by have := PB9.out z hz; have := g.size; omega
  clear k g gn gt K9 D9 G9 P9 PB9
  go_wp2_with fail
  refine (CB.out _ _ K10.out).mono ?_
  rintro e w11 ⟨hl, t10, rfl, eqx, k, g⟩
  have E9 : Hid (tkB bs t9 = (hl, t10)) := eqx
  have LE10 : Hid (∀ q, t10 = some q → q ≤ bs.length) := fun q hq => k.le q hq
  have K11 : Hid (RS bs R v t10 w11) := k
  have D11 : Hid (Blk D 65 zLn w11) := D10.out.grown g RD.out
  have G11 : Hid (w.grownBy w11 (some R)) := grownBy_trans G10.out g
  have P11 : Hid (RdS 4 w11 (.slice a n c) (pl.map insL)) := P10.out.grown g (fun z hz e => by have := PB10.out z hz; have := LD.out; have := HD.out; injection e with e; omega)
  have PB11 : Hid (∀ g, (Value.slice a n c).ownBlock = some g → w.heap.size ≤ g ∧ g < w11.heap.size) := fun z hz => by have := PB10.out z hz; have := g.size; omega
  clear k g eqx K10 D10 G10 P10 PB10
  go_wp2_with fail
  refine (CC.out _ _ K11.out).mono ?_
  rintro e w12 ⟨e0, t11, rfl, eqx, k, g⟩
  have E10 : Hid (tkI bs t10 = (e0, t11)) := eqx
  have K12 : Hid (RS bs R v t11 w12) := k
  have D12 : Hid (Blk D 65 zLn w12) := D11.out.grown g RD.out
  have G12 : Hid (w.grownBy w12 (some R)) := grownBy_trans G11.out g
  have P12 : Hid (RdS 4 w12 (.slice a n c) (pl.map insL)) := P11.out.grown g (fun z hz e => by have := PB11.out z hz; have := LD.out; have := HD.out; injection e with e; omega)
  have PB12 : Hid (∀ g, (Value.slice a n c).ownBlock = some g → w.heap.size ≤ g ∧ g < w12.heap.size) := fun z hz => by have := PB11.out z hz; have := g.size; omega
  clear k g eqx K11 D11 G11 P11 PB11
  go_wp2_with fail
  refine (CI.out _ _ K12.out).mono ?_
  rintro e w13 ⟨e1, s9, rfl, eqx, k, g⟩
  have E11 : Hid (tkI bs t11 = (e1, s9)) := eqx
  have K13 : Hid (RS bs R v s9 w13) := k
  have D13 : Hid (Blk D 65 zLn w13) := D12.out.grown g RD.out
  have G13 : Hid (w.grownBy w13 (some R)) := grownBy_trans G12.out g
  have P13 : Hid (RdS 4 w13 (.slice a n c) (pl.map insL)) := P12.out.grown g (fun z hz e => by have := PB12.out z hz; have := LD.out; have := HD.out; injection e with e; omega)
  have PB13 : Hid (∀ g, (Value.slice a n c).ownBlock = some g → w.heap.size ≤ g ∧ g < w13.heap.size) := fun z hz => by have := PB12.out z hz; have := g.size; omega
  clear k g eqx K12 D12 G12 P12 PB12
  have GT : Hid (Got lnB Ln.Ok bs p s9 ⟨id, tm, pl, bk, cd.1, cd.2.1, cd.2.2, [d0, d1, d2], la, hl, [e0, e1]⟩) := by
    have q0 := tkI_got HB.out HPP.out
    rw [E0.out] at q0
    have le5 : ∀ q, t5 = some q → q ≤ bs.length := fun q hq => LE5.out q hq
    have le10 : ∀ q, t10 = some q → q ≤ bs.length := fun q hq => LE10.out q hq
    have T3 : tkN bs 3 t5 = ([d0, d1, d2], t8) := by simp only [tkN, E5.out, E6.out, E7.out]
    have T2 : tkN bs 2 t10 = ([e0, e1], s9) := by simp only [tkN, E10.out, E11.out]
    have g6 := nums_got HB.out T3 le5
    have g9 := nums_got HB.out T2 le10
    have g8 : Stg putB (fun _ : Bool => True) bs t9 t10 hl := ⟨fun e => by have h := E9.out; rw [e] at h; injection h with _ h; exact h.symm, fun q hq => by have h := E9.out; rw [hq] at h; have := tkB_got (bs := bs) (p := q); rw [h] at this; exact this⟩
    exact ln_got q0 E1.out E2.out E3.out E4.out g6 E8.out g8 g9
  clear CI CC CB CT CL CK CS CP E0 E1 E2 E3 E4 E5 E6 E7 E8 E9 E10 E11 LE5 LE10 HB
  obtain ⟨E, hE⟩ : ∃ E, w13.heap.size = E := ⟨_, rfl⟩
  have EG : Hid (D < E) := by show _ < _; rw [← hE]; exact D13.out.lt
  have DE : Hid (¬ D = E) := by show ¬ _; have := EG.out; omega
  have EN : Hid (Blk E 65 zLn (w13.alloc (.cells zLn.toArray 65))) := by rw [← hE]; exact Blk.new _ _ _
  have DN : Hid (Blk D 65 zLn (w13.alloc (.cells zLn.toArray 65))) := D13.out.below (below_alloc _ _)
  have KN : Hid (RS bs R v s9 (w13.alloc (.cells zLn.toArray 65))) := K13.out.below (below_alloc _ _)
  have GN : Hid (w.grownBy (w13.alloc (.cells zLn.toArray 65)) (some R)) := grownBy_trans G13.out (grownBy_below (below_alloc _ _) _)
  have PN : Hid (RdS 4 (w13.alloc (.cells zLn.toArray 65)) (.slice a n c) (pl.map insL)) := P13.out.later (below_alloc _ _)
  have PE : Hid (∀ g, (Value.slice a n c).ownBlock = some g → w.heap.size ≤ g ∧ g < E) := by rw [← hE]; exact PB13.out
  have PD : Hid (∀ g, (Value.slice a n c).ownBlock = some g → ¬ g = D) := PND.out
  clear D13 K13 G13 P13 PB13 PND
  go_upto_region 3 with (first
    | ((with_reducible refine at_build 65 ?_); refine step_build12 rfl 65 _ _ _ _ _ _ _ _ _ _ _ _ rfl _ _ _ _ _ _ _ _ _ _ _ _ rfl rfl rfl rfl rfl rfl rfl rfl rfl rfl rfl rfl (.agg (lnL ⟨id, tm, pl, bk, cd.1, cd.2.1, cd.2.2, [d0, d1, d2], la, hl, [e0, e1]⟩ (.slice a n c)).toArray) (run_build _ _ _ _ (built_ln id tm a n c pl bk cd d0 d1 d2 la hl e0 e1)) ?_)
    | ((with_reducible refine at_store ?_); (try rw [hE]); refine step_store rfl 65 _ _ rfl E 0 65 zLn (lnL ⟨id, tm, pl, bk, cd.1, cd.2.1, cd.2.2, [d0, d1, d2], la, hl, [e0, e1]⟩ (.slice a n c)) rfl rfl EN.out (by show 0 + 46 ≤ 46; omega) (szLn rfl) (lnL_one rfl).2 ?_; intro w9 nb gb; rw [store_all (by rfl)] at nb))
  have B9 : Hid (Blk E 65 (lnL ⟨id, tm, pl, bk, cd.1, cd.2.1, cd.2.2, [d0, d1, d2], la, hl, [e0, e1]⟩ (.slice a n c)) w9) := nb
  have D9 : Hid (Blk D 65 zLn w9) := DN.out.grown gb (fun e => DE.out e.symm)
  have K9 : Hid (RS bs R v s9 w9) := KN.out.other gb (fun e => by have := EG.out; have := LD.out; omega) (fun h0 e => DW.out _ (by have := EG.out; have := HD.out; omega) h0 e)
  have G9 : Hid (w.grownBy w9 (some R)) := grown_more GN.out gb (by have := EG.out; have := HD.out; omega)
  have P9 : Hid (RdS 4 w9 (.slice a n c) (pl.map insL)) := PN.out.grown gb (fun z hz e => by have := PE.out z hz; injection e with e; omega)
  have PB9 : Hid (E < w9.heap.size) := B9.out.lt
  clear nb gb EN DN KN GN PN
  obtain ⟨y, y1, hy⟩ := K9.out.c1
  have Y1 : Hid (∀ w', RS bs R v s9 w' → w'.cell? ⟨R, 1, none⟩ = some (.int .i64 y) → w'.cell? ⟨R, 2, none⟩ = some (.bool s9.isNone)) := fun w' h _ => h.c2
  have HY : Hid (∀ q, s9 = some q → y = (q : Int)) := hy
  obtain ⟨nb, hnb⟩ : ∃ b, s9.isNone = b := ⟨_, rfl⟩
  have NB : Hid (s9.isSome = !nb) := by show _ = _; rw [← hnb]; cases s9 <;> rfl
  have y2 : w9.cell? ⟨R, 2, none⟩ = some (.bool nb) := by rw [← hnb]; exact K9.out.c2
  clear hnb hy Y1
  refine wp_region_held_drew (S := fun w' => w'.cell? ⟨R, 1, none⟩ = some (.int .i64 y) ∧ w'.cell? ⟨R, 2, none⟩ = some (.bool nb) ∧ Blk E 65 (lnL ⟨id, tm, pl, bk, cd.1, cd.2.1, cd.2.2, [d0, d1, d2], la, hl, [e0, e1]⟩ (.slice a n c)) w') (by kernel_rfl) ⟨y1, y2, B9.out.drewN 1⟩ (fun hH => ?_)
  refine wpAnyH_take (i := 0) (oi := { dst := some 41, op := Op.load 65 (Operand.tmp 9), type := 65, pos := "reader.go:99", after := #[], guard := none }) (v := .agg (lnL ⟨id, tm, pl, bk, cd.1, cd.2.1, cd.2.2, [d0, d1, d2], la, hl, [e0, e1]⟩ (.slice a n c)).toArray) rfl (by kernel_rfl) (by kernel_rfl) (by kernel_rfl) (fun _ _ _ h => h) (yieldsIf_load_mid (by rfl) _ _ rfl E 0 rfl (lnL ⟨id, tm, pl, bk, cd.1, cd.2.1, cd.2.2, [d0, d1, d2], la, hl, [e0, e1]⟩ (.slice a n c)) _ (fun w' h => Blk.all h.2.2) huT rfl (szLn rfl)) hH ?_
  try simp only [Act.put, List.setIfInBounds_toArray, List.set_cons_zero, List.set_cons_succ]
  refine wpAnyH_take (i := 1) (oi := { dst := some 42, op := Op.move (Operand.tmp 0), type := 129, pos := "reader.go:99", after := #[{ on := 10, ground := Ground.gcOnly Departure.lateStores }], guard := none }) (v := .pointer (some ⟨R, 0, none⟩)) rfl (by kernel_rfl) (by kernel_rfl) (by kernel_rfl) (fun _ _ _ h => h) (Or.inl ⟨by rfl, fun w' h => by go_simp⟩) hH ?_
  try simp only [Act.put, List.setIfInBounds_toArray, List.set_cons_zero, List.set_cons_succ]
  refine wpAnyH_take (i := 2) (oi := { dst := some 43, op := Op.nilCheck (Operand.tmp 42), type := 0, pos := "reader.go:99", after := #[{ on := 1, ground := Ground.data }, { on := 10, ground := Ground.gcOnly Departure.lateStores }], guard := none }) (v := .pointer (some ⟨R, 0, none⟩)) rfl (by kernel_rfl) (by kernel_rfl) (by kernel_rfl) (fun _ _ _ h => h) (Or.inl ⟨by rfl, fun w' h => by go_simp⟩) hH ?_
  try simp only [Act.put, List.setIfInBounds_toArray, List.set_cons_zero, List.set_cons_succ]
  refine wpAnyH_take (i := 3) (oi := { dst := some 44, op := Op.fieldAddr 92 (Operand.tmp 43) 1, type := 0, pos := "reader.go:99", after := #[{ on := 2, ground := Ground.data }, { on := 10, ground := Ground.gcOnly Departure.lateStores }], guard := none }) (v := .pointer (some ⟨R, 1, none⟩)) rfl (by kernel_rfl) (by kernel_rfl) (by kernel_rfl) (fun _ _ _ h => h) (Or.inl ⟨by rfl, fun w' h => by go_simp⟩) hH ?_
  try simp only [Act.put, List.setIfInBounds_toArray, List.set_cons_zero, List.set_cons_succ]
  refine wpAnyH_take (i := 4) (oi := { dst := some 45, op := Op.load 3 (Operand.tmp 44), type := 3, pos := "reader.go:99", after := #[{ on := 3, ground := Ground.data }, { on := 10, ground := Ground.gcOnly Departure.lateStores }], guard := none }) (v := .int .i64 y) rfl (by kernel_rfl) (by kernel_rfl) (by kernel_rfl) (fun _ _ _ h => h) (Or.inl ⟨by rfl, fun w' h => by have q := h.1; go_simp⟩) hH ?_
  try simp only [Act.put, List.setIfInBounds_toArray, List.set_cons_zero, List.set_cons_succ]
  refine wpAnyH_take (i := 5) (oi := { dst := some 46, op := Op.move (Operand.tmp 0), type := 129, pos := "reader.go:99", after := #[{ on := 11, ground := Ground.gcOnly Departure.lateStores }], guard := none }) (v := .pointer (some ⟨R, 0, none⟩)) rfl (by kernel_rfl) (by kernel_rfl) (by kernel_rfl) (fun _ _ _ h => h) (Or.inl ⟨by rfl, fun w' h => by go_simp⟩) hH ?_
  try simp only [Act.put, List.setIfInBounds_toArray, List.set_cons_zero, List.set_cons_succ]
  refine wpAnyH_take (i := 6) (oi := { dst := some 47, op := Op.nilCheck (Operand.tmp 46), type := 0, pos := "reader.go:99", after := #[{ on := 5, ground := Ground.data }, { on := 11, ground := Ground.gcOnly Departure.lateStores }], guard := none }) (v := .pointer (some ⟨R, 0, none⟩)) rfl (by kernel_rfl) (by kernel_rfl) (by kernel_rfl) (fun _ _ _ h => h) (Or.inl ⟨by rfl, fun w' h => by go_simp⟩) hH ?_
  try simp only [Act.put, List.setIfInBounds_toArray, List.set_cons_zero, List.set_cons_succ]
  refine wpAnyH_take (i := 7) (oi := { dst := some 48, op := Op.fieldAddr 92 (Operand.tmp 47) 2, type := 0, pos := "reader.go:99", after := #[{ on := 6, ground := Ground.data }, { on := 11, ground := Ground.gcOnly Departure.lateStores }], guard := none }) (v := .pointer (some ⟨R, 2, none⟩)) rfl (by kernel_rfl) (by kernel_rfl) (by kernel_rfl) (fun _ _ _ h => h) (Or.inl ⟨by rfl, fun w' h => by go_simp⟩) hH ?_
  try simp only [Act.put, List.setIfInBounds_toArray, List.set_cons_zero, List.set_cons_succ]
  refine wpAnyH_take (i := 8) (oi := { dst := some 49, op := Op.load 4 (Operand.tmp 48), type := 4, pos := "reader.go:99", after := #[{ on := 7, ground := Ground.data }, { on := 11, ground := Ground.gcOnly Departure.lateStores }], guard := none }) (v := .bool nb) rfl (by kernel_rfl) (by kernel_rfl) (by kernel_rfl) (fun _ _ _ h => h) (Or.inl ⟨by rfl, fun w' h => by have q := h.2.1; go_simp⟩) hH ?_
  try simp only [Act.put, List.setIfInBounds_toArray, List.set_cons_zero, List.set_cons_succ]
  refine wpAnyH_take (i := 9) (oi := { dst := some 50, op := Op.unOp UnOp.not 4 (Operand.tmp 49), type := 4, pos := "reader.go:99", after := #[{ on := 8, ground := Ground.data }, { on := 11, ground := Ground.gcOnly Departure.lateStores }], guard := none }) (v := .bool (!nb)) rfl (by kernel_rfl) (by kernel_rfl) (by kernel_rfl) (fun _ _ _ h => h) (Or.inl ⟨by rfl, fun w' h => by go_simp⟩) hH ?_
  try simp only [Act.put, List.setIfInBounds_toArray, List.set_cons_zero, List.set_cons_succ]
  refine wpAnyH_ready (rs := [10]) (by kernel_rfl) (by simp) ?_
  refine AllReadyH.cons (o := { dst := none, op := Op.store 65 (Operand.tmp 6) (Operand.tmp 41), type := 0, pos := "reader.go:99", after := #[{ on := 0, ground := Ground.data }, { on := 0, ground := Ground.phase }, { on := 1, ground := Ground.textOnly Departure.lateStores }, { on := 2, ground := Ground.textOnly Departure.lateStores }, { on := 3, ground := Ground.textOnly Departure.lateStores }, { on := 4, ground := Ground.textOnly Departure.lateStores }, { on := 5, ground := Ground.textOnly Departure.lateStores }, { on := 6, ground := Ground.textOnly Departure.lateStores }, { on := 7, ground := Ground.textOnly Departure.lateStores }, { on := 8, ground := Ground.textOnly Departure.lateStores }, { on := 9, ground := Ground.textOnly Departure.lateStores }], guard := none }) rfl (fun Kx hK => ?_) AllReadyH.nil
  refine op_putS (zs := zLn) (lnL ⟨id, tm, pl, bk, cd.1, cd.2.1, cd.2.2, [d0, d1, d2], la, hl, [e0, e1]⟩ (.slice a n c)) rfl (szLn rfl) (lnL_one rfl).2 rfl _ _ rfl D rfl rfl (D9.out.drewN 1) ?_
  intro w10 b10 g10
  have K10 : Hid (RS bs R v s9 w10) := (K9.out.drewN 1).other g10 (fun e => RD.out e.symm) (fun h0 e => DV.out h0 e)
  have B10 : Hid (Blk E 65 (lnL ⟨id, tm, pl, bk, cd.1, cd.2.1, cd.2.2, [d0, d1, d2], la, hl, [e0, e1]⟩ (.slice a n c)) w10) := (B9.out.drewN 1).grown g10 (fun e => DE.out e)
  have G10 : Hid (w.grownBy w10 (some R)) := grown_more (grownBy_drewN G9.out 1) g10 (by rw [HD.out]; exact Nat.le_refl _)
  have N10 : Hid (Blk D 65 (lnL ⟨id, tm, pl, bk, cd.1, cd.2.1, cd.2.2, [d0, d1, d2], la, hl, [e0, e1]⟩ (.slice a n c)) w10) := b10
  have q1 : w10.cell? ⟨R, 1, none⟩ = some (.int .i64 y) := (World.cell?_of_block (a := ⟨R, 1, none⟩) (g10.block R (K9.out.lt) (fun e => RD.out (by injection e)))).trans y1
  have q2 : w10.cell? ⟨R, 2, none⟩ = some (.bool nb) := (World.cell?_of_block (a := ⟨R, 2, none⟩) (g10.block R (K9.out.lt) (fun e => RD.out (by injection e)))).trans y2
  refine hK.out _ _ ⟨q1, q2, B10.out⟩ (fun hH => ?_)
  try simp only [Act.put]
  refine wpAnyH_take (i := 11) (oi := { dst := some 7, op := Op.assign (Operand.tmp 45), type := 3, pos := "reader.go:99", after := #[{ on := 4, ground := Ground.data }, { on := 10, ground := Ground.chain }, { on := 0, ground := Ground.phase }, { on := 1, ground := Ground.phase }, { on := 2, ground := Ground.phase }, { on := 3, ground := Ground.phase }, { on := 4, ground := Ground.phase }, { on := 5, ground := Ground.textOnly Departure.lateStores }, { on := 6, ground := Ground.textOnly Departure.lateStores }, { on := 7, ground := Ground.textOnly Departure.lateStores }, { on := 8, ground := Ground.textOnly Departure.lateStores }, { on := 9, ground := Ground.textOnly Departure.lateStores }, { on := 10, ground := Ground.phase }], guard := none }) (v := .int .i64 y) rfl (by kernel_rfl) (by kernel_rfl) (by kernel_rfl) (fun _ _ _ h => h) (Or.inl ⟨by rfl, fun w' h => by go_simp⟩) hH ?_
  try simp only [Act.put, List.setIfInBounds_toArray, List.set_cons_zero, List.set_cons_succ]
  refine wpAnyH_take (i := 12) (oi := { dst := some 8, op := Op.assign (Operand.tmp 50), type := 4, pos := "reader.go:99", after := #[{ on := 9, ground := Ground.data }, { on := 11, ground := Ground.chain }, { on := 0, ground := Ground.phase }, { on := 1, ground := Ground.phase }, { on := 2, ground := Ground.phase }, { on := 3, ground := Ground.phase }, { on := 4, ground := Ground.phase }, { on := 5, ground := Ground.phase }, { on := 6, ground := Ground.phase }, { on := 7, ground := Ground.phase }, { on := 8, ground := Ground.phase }, { on := 9, ground := Ground.phase }, { on := 10, ground := Ground.phase }, { on := 11, ground := Ground.phase }], guard := none }) (v := .bool (!nb)) rfl (by kernel_rfl) (by kernel_rfl) (by kernel_rfl) (fun _ _ _ h => h) (Or.inl ⟨by rfl, fun w' h => by go_simp⟩) hH ?_
  try simp only [Act.put, List.setIfInBounds_toArray, List.set_cons_zero, List.set_cons_succ]
  refine wpAnyH_done (by kernel_rfl) ?_ _
  have P10 : Hid (RdS 4 w10 (.slice a n c) (pl.map insL)) := (show RdS 4 (w9.drewN 1) (.slice a n c) (pl.map insL) from P9.out).grown g10 (fun z hz e => by have := PD.out z hz; injection e with e; omega)
  have S10 : Hid (E < w10.heap.size) := B10.out.lt
  clear hH hK b10 g10 q1 q2 y1 y2 B9 D9 P9
  go_wp2_with fail
  refine bodyPost_cell_tmp2 rfl rfl D 65 (lnL ⟨id, tm, pl, bk, cd.1, cd.2.1, cd.2.2, [d0, d1, d2], la, hl, [e0, e1]⟩ (.slice a n c)).toArray (0, 0) _ rfl N10.out Try.underlying65 rfl (by simpa using szLn (C := lnL ⟨id, tm, pl, bk, cd.1, cd.2.1, cd.2.2, [d0, d1, d2], la, hl, [e0, e1]⟩ (.slice a n c)) rfl) ⟨⟨id, tm, pl, bk, cd.1, cd.2.1, cd.2.2, [d0, d1, d2], la, hl, [e0, e1]⟩, a, n, c, y, s9, ?_, HY.out, K10.out, G10.out, P10.out, (fun g hg => by have := PE.out g hg; have := S10.out; omega), GT.out⟩
  rw [NB.out]; rfl
end Go.Proofs.Ytdbjjeaflfoppaa

namespace Go.Proofs.Ytdbjjeaflfoppaa
open Go.RowKit WsM

theorem lnB_pos (l : Ln) (_ : l.Ok) : 0 < (lnB l).length := by unfold lnB; have := putI_pos l.id; rw [List.length_append]; omega
theorem TwI.apart {wb E : Nat} {wr w' : World} {v : Value} {ls : List Ln} {pvs : List Value} (h : TwI wb wr v ls pvs) (gr : wr.grownBy w' (some E)) (h1 : ∀ g, v.ownBlock = some g → g ≠ E) (h2 : ∀ i, i < ls.length → ∀ g, (pvs.getD i .nilFunc).ownBlock = some g → g ≠ E) : TwI wb w' v ls pvs :=
  ⟨h.len, World.ownsRow.kept h.row gr (by
    cases hv : v.ownBlock with
    | none => exact .inl rfl
    | some g => exact .inr (fun e => h1 g hv (by injection e))), h.new, fun i hi => ⟨(h.pl i hi).1.grown gr (fun g hg e => h2 i hi g hg (by injection e with e; exact e.symm)), (h.pl i hi).2⟩, h.ap, fun g hg => Nat.lt_of_lt_of_le (h.lt g hg) gr.size, fun i hi g hg => Nat.lt_of_lt_of_le (h.pb i hi g hg) gr.size, h.pn⟩
def LlAns (bs : List Nat) (R : Nat) (v : Value) (p : Nat) (w : World) (e : Ending) (w' : World) : Prop :=
  ∃ (a : Option Addr) (n c : Nat) (xs : List Ln) (pvs : List Value) (y : Int) (k : Bool), e = .returned (.tuple #[.slice a n c, .int .i64 y, .bool k]) ∧ TwI w.heap.size w' (.slice a n c) xs pvs ∧ (∃ st, RS bs R v st w') ∧ w.grownBy w' (some R) ∧
    ((k = false ∧ xs = [] ∧ y = 0 ∧ Got (lsB lnB) (fun xs => ∀ x ∈ xs, Ln.Ok x) bs p none xs) ∨ (k = true ∧ ∃ q : Nat, y = (q : Int) ∧ Got (lsB lnB) (fun xs => ∀ x ∈ xs, Ln.Ok x) bs p (some q) xs))
def TlAns (bs : List Nat) (R : Nat) (v : Value) (st : Option Nat) (w : World) (e : Ending) (w' : World) : Prop :=
  ∃ (a : Option Addr) (n c : Nat) (xs : List Ln) (pvs : List Value) (st' : Option Nat), e = .returned (.slice a n c) ∧ TwI w.heap.size w' (.slice a n c) xs pvs ∧ RS bs R v st' w' ∧ w.grownBy w' (some R) ∧ Stg (lsB lnB) (fun xs => ∀ x ∈ xs, Ln.Ok x) bs st st' xs
abbrev loanF (R : Nat) : Value := .func (.func 54) #[.pointer (some ⟨R, 0, none⟩)] #[]
set_option maxRecDepth 20000 in
set_option maxHeartbeats 4000000 in
theorem listLn_at (bs : List Nat) (hb : ∀ c ∈ bs, c < 256) (hl : bs.length ≤ 100000000000) (R q0 : Nat) (v : Value) (p : Nat) (w : World) (h : RS bs R v (some q0) w) (hp : p ≤ bs.length) :
    Calls Try.prog 107 #[v, .int .i64 (p : Int), loanF R] w (LlAns bs R v p w) := by
  obtain ⟨i0, hi, hz0, hz1, hz2⟩ := info_parts infoL46
  have C : Hid (Calls Try.prog 127 #[v, .int .i64 (p : Int)] w fun e w' => e = lenAns (lenR bs (p : Int)) ∧ w' = w) := length_at bs p v w hb (by omega) (by omega) (by omega) h.rd
  have hR := h.lt
  have HV : Hid (0 < bs.length → ∀ g, v.ownBlock = some g → g < w.heap.size) := fun h0 g e => Rd.block h.rd (by rw [List.length_map]; exact h0) e
  have H0 : Hid (∃ st, RS bs R v (some st) w) := ⟨_, h⟩
  have HG : Hid (∀ w' q1 (q : Nat), RS bs R v (some q1) w' → q ≤ bs.length → Calls Try.prog 54 #[.pointer (some ⟨R, 0, none⟩), v, .int .i64 (q : Int)] w' (LnAns bs R v q w')) := fun w' q1 q h1 h2 => loan_at bs hb (by omega) R v q w' (Seeks.of_rs h1 h2)
  obtain ⟨L, hL⟩ : ∃ L, bs.length = L := ⟨_, rfl⟩
  obtain ⟨ao, cap, ev, hcap, hn⟩ := h.rd.len
  rw [List.length_map, hL] at ev hcap
  subst ev
  have HB : Hid (∀ c ∈ bs, c < 256) := hb
  have HP : Hid (p ≤ bs.length) := hp
  unfold loanF
  cases hr : lenR bs (p : Int) with
  | none =>
    have NO : Hid (Got (lsB lnB) (fun xs => ∀ x ∈ xs, Ln.Ok x) bs p none []) := ⟨(fun q h => by cases h), fun _ ys r oy e => lsB_none lnB_pos hb (by omega) hp hr ys r oy e⟩
    rw [hr] at C
    clear hr h HG hb
    go_enter Try.func107, Try.ntmps107
    go_wp2_with fail
    refine C.out.mono ?_
    rintro e w1 ⟨rfl, hw⟩; rw [hw]; clear hw w1
    simp only [lenAns]
    go_wp2_with fail
    go_ret3
    obtain ⟨st, hst⟩ := H0.out
    exact ⟨none, 0, 0, [], [], _, _, rfl, TwI.nil _ _, ⟨_, hst⟩, grownBy_refl _ _, .inl ⟨rfl, rfl, rfl, NO.out⟩⟩
  | some q =>
    obtain ⟨n, f0⟩ := q
    obtain ⟨_, f1, f2, f3⟩ := lenR_le hb hr
    have HRR : Hid (lenR bs (p : Int) = some (n, f0)) := hr
    rw [hr] at C
    rw [hL] at hl f3
    have hL' : Hid (bs.length = L) := hL
    clear hr h hL hb hp
    go_enter Try.func107, Try.ntmps107
    go_wp2_with fail
    refine C.out.mono ?_
    rintro e w1 ⟨rfl, hw⟩; rw [hw]; clear hw w1
    simp only [lenAns]
    go_wp2_with fail
    go_loopw [12, 10, 26] (fun vl vq vk wr => ∃ (k : Nat) (xs : List Ln) (pvs : List Value) (q : Nat) (vv : Value), vv = vl ∧ vk = .int .i64 (k : Int) ∧ vq = .int .i64 (q : Int) ∧ q ≤ L ∧ k ≤ n ∧ Hid (RdLi lnB Ln.Ok bs f0 k xs q) ∧ Hid (TwI w.heap.size wr vv xs pvs) ∧ Hid (∃ st, RS bs R (.slice ao L cap) (some st) wr) ∧ Hid (w.grownBy wr (some R))) (fun _ _ vk _ => n - (intOf vk).toNat)
    case atStart => exact ⟨0, [], [], f0, _, rfl, rfl, rfl, by omega, by omega, RdLi.start (by rw [hL'.out]; omega), TwI.nil _ _, H0, grownBy_refl _ _⟩
    case round =>
      obtain ⟨k, xs, pvs, q, vv, rfl, rfl, rfl, q1, hk, HR, TW, HS, NX⟩ := hrel
      by_cases hlt : (k : Int) < (n : Int)
      · obtain ⟨st, hst⟩ := HS.out
        have G := HG.out _ st q hst (by rw [hL'.out]; exact q1)
        have lx := HR.out.len
        have LZ : Hid ((List.zipWith lnL xs pvs).length = k) := by show _ = _; rw [zip_len TW.out.len]; exact lx
        have l1 : (List.zipWith lnL xs pvs).length + 1 ≤ maxLen := by rw [LZ.out]; unfold maxLen; omega
        have l2 : ((List.zipWith lnL xs pvs).length + 1) * 384 ≤ 140737488355328 := by rw [LZ.out]; omega
        have LLm : Hid ((List.zipWith lnL xs pvs).length + 1 ≤ maxLen ∧ ((List.zipWith lnL xs pvs).length + 1) * 384 ≤ 140737488355328) := ⟨l1, l2⟩
        clear lx hst l1 l2
        go_wp2_with fail
        refine G.mono ?_
        rintro e w2 ⟨x, pa, pn, pc, y, s2, rfl, hy, k2, g2, rp, pb, gt⟩
        have N2 : Hid (w.grownBy w2 (some R)) := grownBy_trans NX.out g2
        have T2 : Hid (TwI w.heap.size w2 vv xs pvs) := TW.out.row_grown g2 hR
        have GT : Hid (Got lnB Ln.Ok bs q s2 x) := gt
        have PA : Hid (∀ g, (Value.slice pa pn pc).ownBlock = some g → vv.ownBlock ≠ some g ∧ g < w2.heap.size ∧ w.heap.size ≤ g) := fun g hg => ⟨fun e => by have := TW.out.lt g e; have := pb g hg; omega, (pb g hg).2, by have := (pb g hg).1; have := NX.out.size; omega⟩
        have EN : Hid (Blk w2.heap.size 65 zLn (w2.alloc (.cells zLn.toArray 65))) := Blk.new _ _ _
        have KN : Hid (RS bs R (.slice ao L cap) s2 (w2.alloc (.cells zLn.toArray 65))) := k2.below (below_alloc _ _)
        have NN : Hid (w.grownBy (w2.alloc (.cells zLn.toArray 65)) (some R)) := grownBy_trans N2.out (grownBy_below (below_alloc _ _) _)
        have TN : Hid (TwI w.heap.size (w2.alloc (.cells zLn.toArray 65)) vv xs pvs) := T2.out.below (below_alloc _ _)
        have PN : Hid (RdS 4 (w2.alloc (.cells zLn.toArray 65)) (.slice pa pn pc) (x.pl.map insL)) := rp.later (below_alloc _ _)
        have SZ : Hid (w.heap.size ≤ w2.heap.size) := N2.out.size
        have BL : Hid (∀ g, vv.ownBlock = some g → g < w2.heap.size) := T2.out.lt
        have BP : Hid (∀ i, i < xs.length → ∀ g, (pvs.getD i .nilFunc).ownBlock = some g → g < w2.heap.size) := T2.out.pb
        have O1 : Hid ((lnL x (.slice pa pn pc)).length = 46 ∧ ∀ u ∈ lnL x (.slice pa pn pc), u.oneCell' = true) := lnL_one rfl
        clear k2 g2 gt G NX N2 T2 rp pb TW
        cases s2 with
        | none =>
          have NO : Hid (Got (lsB lnB) (fun xs => ∀ x ∈ xs, Ln.Ok x) bs p none []) := HR.out.fails ln_pin HB.out HP.out HRR.out (by omega) GT.out []
          simp only [Option.isSome]
          go_wp2_with ((with_reducible refine at_store ?_); refine step_store rfl 65 _ _ rfl w2.heap.size 0 65 zLn (lnL x (.slice pa pn pc)) rfl rfl EN.out (by show 0 + 46 ≤ 46; omega) (szLn O1.out.1) O1.out.2 ?_; intro w3 nb gb; have K3 : Hid (RS bs R (.slice ao L cap) none w3) := KN.out.other gb (by have := SZ.out; omega) (fun h0 e => by have := HV.out h0 _ e; have := SZ.out; omega); have N3 : Hid (w.grownBy w3 (some R)) := grown_more NN.out gb SZ.out; clear nb gb)
          go_ret3
          exact ⟨none, 0, 0, [], [], _, _, rfl, TwI.nil _ _, ⟨_, K3.out⟩, N3.out, .inl ⟨rfl, rfl, rfl, NO.out⟩⟩
        | some n1 =>
          obtain rfl := hy n1 rfl
          obtain ⟨ox, ex, lx, ll⟩ := GT.out.yes n1 rfl
          have px := lnB_pos x ox
          rw [hL'.out] at ll
          have HS2 : Hid (RdLi lnB Ln.Ok bs f0 (k + 1) (xs ++ [x]) n1) := HR.out.step GT.out rfl
          have d1 : decide ((n1 : Int) ≤ (q : Int)) = false := decide_eq_false (by omega)
          have d2 : decide ((L : Int) < (n1 : Int)) = false := decide_eq_false (by omega)
          have d3 : decide (n1 ≤ q) = false := decide_eq_false (by omega)
          have d4 : decide (L < n1) = false := decide_eq_false (by omega)
          have lq : q < n1 := by omega
          simp only [Option.isSome]
          clear ox ex lx px hy GT
          go_wp2_with (first
            | ((with_reducible refine at_store ?_); refine step_store rfl 65 _ _ rfl w2.heap.size 0 65 zLn (lnL x (.slice pa pn pc)) rfl rfl EN.out (by show 0 + 46 ≤ 46; omega) (szLn O1.out.1) O1.out.2 ?_; intro w3 nb gb; rw [store_all (by rfl)] at nb; have B3 : Hid (Blk w2.heap.size 65 (lnL x (.slice pa pn pc)) w3) := nb; have K3 : Hid (RS bs R (.slice ao L cap) (some n1) w3) := KN.out.other gb (by have := SZ.out; omega) (fun h0 e => by have := HV.out h0 _ e; have := SZ.out; omega); have N3 : Hid (w.grownBy w3 (some R)) := grown_more NN.out gb SZ.out; have T3 : Hid (TwI w.heap.size w3 vv xs pvs) := TN.out.apart gb (fun g hg e => by have := BL.out g hg; omega) (fun i hi g hg e => by have := BP.out i hi g hg; omega); have P3 : Hid (RdS 4 w3 (.slice pa pn pc) (x.pl.map insL)) := PN.out.grown gb (fun g hg e => by have := (PA.out g hg).2.1; injection e with e; omega); have Z3 : Hid (w2.heap.size < w3.heap.size) := nb.lt; clear nb gb)
            | ((with_reducible refine at_loadT 65 ?_); refine step_load rfl 65 _ rfl w2.heap.size 0 rfl (lnL x (.slice pa pn pc)) _ B3.out.all Try.underlying65 rfl (szLn O1.out.1) ?_)
            | ((with_reducible refine at_slice ?_); refine step_slice1 rfl 29 65 _ rfl i0 _ 46 (by decide) Try.underlying29 hi hz0 hz1 (by decide) (lnL x (.slice pa pn pc)) O1.out.1 rfl ?_)
            | (at_builtin; refine wpList_pushS rfl (.tmp 49) (.tmp 51) 29 rfl 65 i0 _ 46 384 Try.underlying29 hi hz0 hz1 hz2 rfl (by decide) vv (List.zipWith lnL xs pvs) (lnL x (.slice pa pn pc)) rfl T3.out.row rfl O1.out.1 O1.out.2 LLm.out.1 LLm.out.2 ?_; intro v4 w4 row4 g4 o4))
          have T4 : TwI w.heap.size w4 v4 (xs ++ [x]) (pvs ++ [.slice pa pn pc]) := T3.out.push (by have := SZ.out; have := Z3.out; omega) P3.out rfl (fun g hg => (PA.out g hg).1) (fun g hg => by have := (PA.out g hg).2.1; have := Z3.out; omega) (fun g hg => (PA.out g hg).2.2) row4 g4 o4
          have NW := T3.out.new
          have S4 : ∃ st, RS bs R (.slice ao L cap) (some st) w4 := ⟨n1, K3.out.keep g4 (fun e => by have := NW _ e; omega) (fun h0 g hg e => by have := NW _ e; have := HV.out h0 g hg; omega)⟩
          have N4 : w.grownBy w4 (some R) := grown_row N3.out g4 (fun g e => NW g e)
          go_roundw
          case rel => exact ⟨k + 1, xs ++ [x], _, n1, v4, rfl, by go_num, rfl, ll, by omega, HS2.out, T4, S4, N4⟩
          case measure => simp [intOf]; omega
      · obtain rfl : k = n := by omega
        have E : Hid (Got (lsB lnB) (fun xs => ∀ x ∈ xs, Ln.Ok x) bs p (some q) xs) := RdLi.ends HB.out HP.out HRR.out HR.out
        obtain ⟨va, vc, evv, -, -⟩ := (owns_rd (zip_K xs pvs) TW.out.row).len
        generalize (List.zipWith lnL xs pvs).length = vn at evv
        subst evv
        go_wp2_with fail
        go_ret3
        obtain ⟨st, hst⟩ := HS.out
        exact ⟨va, vn, vc, xs, pvs, _, _, rfl, TW.out, ⟨_, hst⟩, NX.out, .inr ⟨rfl, q, rfl, E.out⟩⟩
set_option maxRecDepth 20000 in
theorem closLn_at (bs : List Nat) (hb : ∀ c ∈ bs, c < 256) (hl : bs.length ≤ 100000000000) (R q0 B : Nat) (v : Value) (p : Nat) (w : World) (h : RS bs R v (some q0) w) (hp : p ≤ bs.length) (hB : w.cell? ⟨B, 0, none⟩ = some (loanF R)) :
    Calls Try.prog 106 #[v, .int .i64 (p : Int), .pointer (some ⟨B, 0, none⟩)] w (LlAns bs R v p w) := by
  have C : Hid (Calls Try.prog 107 #[v, .int .i64 (p : Int), .func (.func 54) #[.pointer (some ⟨R, 0, none⟩)] #[]] w (LlAns bs R v p w)) := listLn_at bs hb hl R q0 v p w h hp
  obtain ⟨ao, cap, ev, _, _⟩ := h.rd.len
  generalize (bs.map bv).length = L at ev
  subst ev
  clear h hb hl hp
  unfold loanF at hB
  go_enter Try.func106, Try.ntmps106
  go_wp2_with fail
  refine C.out.mono ?_
  rintro e w1 ⟨a, n, c, xs, pvs, y, k, rfl, r1, s1, g1, D1⟩
  have KK : Hid (LlAns bs R (.slice ao L cap) p w (.returned (.tuple #[.slice a n c, .int .i64 y, .bool k])) w1) := ⟨a, n, c, xs, pvs, y, k, rfl, r1, s1, g1, D1⟩
  clear r1 s1 g1 D1
  go_wp2_with fail
  go_ret3
  exact KK.out
theorem TwI.drewN {wb : Nat} {wr w' : World} {v : Value} {ls : List Ln} {pvs : List Value} {R : Nat} (h : TwI wb wr v ls pvs) (gr : wr.grownBy w' (some R)) (hR : R < wb) : TwI wb w' v ls pvs := h.row_grown gr hR
set_option maxRecDepth 20000 in
set_option maxHeartbeats 1000000 in
theorem takeLn_at (bs : List Nat) (hb : ∀ c ∈ bs, c < 256) (hl : bs.length ≤ 100000000000) (R B : Nat) (v : Value) (st : Option Nat) (w : World) (h : RS bs R v st w) (hB : w.cell? ⟨B, 0, none⟩ = some (loanF R)) :
    Calls Try.prog 105 #[.pointer (some ⟨R, 0, none⟩), .func (.func 106) #[] #[.pointer (some ⟨B, 0, none⟩)]] w (TlAns bs R v st w) := by
  have c0 := h.c0
  have c2 := h.c2
  obtain ⟨p, c1, hp⟩ := h.c1
  have hR := h.lt
  cases st with
  | none =>
    simp only [Option.isNone] at c2
    have HH : Hid (RS bs R v none w) := h
    clear h hp hB
    go_enter Try.func105, Try.ntmps105
    go_wp2_with fail
    go_ret
    exact ⟨none, 0, 0, [], [], none, rfl, TwI.nil _ _, HH.out, grownBy_refl _ _, fun _ => rfl, (fun p h => by cases h)⟩
  | some q =>
    obtain rfl := hp q rfl
    have hq := h.le q rfl
    simp only [Option.isNone] at c2
    have C : Hid (∀ n, Calls Try.prog 106 #[v, .int .i64 (q : Int), .pointer (some ⟨B, 0, none⟩)] (w.drewN n) (LlAns bs R v q (w.drewN n))) := fun n => closLn_at bs hb hl R q B v q (w.drewN n) (h.drewN n) hq hB
    clear h hp hB hq hb hl
    go_enter Try.func105, Try.ntmps105
    go_wp2_with fail
    go_cut [6, 7, 8] from 14 to 27 (fun x y z wx => ∃ a n c xs pvs y' k, x = .slice a n c ∧ y = .int .i64 y' ∧ z = .bool k ∧ Hid (TwI w.heap.size wx (.slice a n c) xs pvs) ∧ Hid (∃ st, RS bs R v st wx) ∧ w.grownBy wx (some R) ∧ Hid ((k = false ∧ xs = [] ∧ y' = 0 ∧ Got (lsB lnB) (fun xs => ∀ x ∈ xs, Ln.Ok x) bs q none xs) ∨ (k = true ∧ ∃ q1 : Nat, y' = (q1 : Int) ∧ Got (lsB lnB) (fun xs => ∀ x ∈ xs, Ln.Ok x) bs q (some q1) xs)))
    case first =>
      go_region_with (go_at_call 106; refine (C.out _).mono ?_; rintro e w1 ⟨a, n, c, xs, pvs, y, k, rfl, r1, s1, g1, D1⟩)
      all_goals
        go_wp2_with fail
        go_meet
        exact ⟨a, n, c, xs, pvs, y, k, rfl, rfl, rfl, r1, s1, ⟨g1.os, g1.tape, g1.output, g1.size, g1.block⟩, D1⟩
    case rest =>
      obtain ⟨a, n, c, xs, pvs, y', k, rfl, rfl, rfl, r1, s1, g1, D1⟩ := hcut
      obtain ⟨st, s⟩ := s1.out
      obtain ⟨p1, k1, _⟩ := s.c1
      have k2 := s.c2
      have fz1 := s.fz 1
      have fz2 := s.fz 2
      have PT : Hid (∀ st' : Option Nat, (∀ q, st' = some q → y' = (q : Int)) → (∀ q, st' = some q → q ≤ bs.length) → RS bs R v st' ((wc.setCell ⟨R, 1, none⟩ (.int .i64 y')).setCell ⟨R, 2, none⟩ (.bool st'.isNone)) ∧ wc.grownBy ((wc.setCell ⟨R, 1, none⟩ (.int .i64 y')).setCell ⟨R, 2, none⟩ (.bool st'.isNone)) (some R)) := fun st' h1 h2 => s.put (st' := st') 0 y' h1 h2
      clear s s1 C
      rcases D1.out with ⟨rfl, rfl, rfl, GG⟩ | ⟨rfl, q1, rfl, GG⟩
      · obtain ⟨F1, F2⟩ := PT.out none (fun q h => by cases h) (fun q h => by cases h)
        simp only [Option.isNone] at F1 F2
        have HGG : Hid (Got (lsB lnB) (fun xs => ∀ x ∈ xs, Ln.Ok x) bs q none []) := GG
        have F1' : Hid (RS bs R v none ((wc.setCell ⟨R, 1, none⟩ (.int .i64 0)).setCell ⟨R, 2, none⟩ (.bool true))) := F1
        have F2' : Hid (w.grownBy ((wc.setCell ⟨R, 1, none⟩ (.int .i64 0)).setCell ⟨R, 2, none⟩ (.bool true)) (some R)) := grownBy_trans g1 F2
        clear F1 F2 PT D1 GG
        go_wp2_with fail
        go_ret
        exact ⟨a, n, c, [], pvs, none, rfl, r1.out.row_grown (grownBy_trans (setCell_grown _ R 1 _) (setCell_grown _ R 2 _)) hR, F1'.out, F2'.out, (fun h => by cases h), (fun p h => by injection h with h; subst h; exact HGG.out)⟩
      · have LE : q1 ≤ bs.length := (GG.yes q1 rfl).2.2.2
        obtain ⟨F1, F2⟩ := PT.out (some q1) (fun q h => by cases h; rfl) (fun q h => by cases h; exact LE)
        simp only [Option.isNone] at F1 F2
        have HGG : Hid (Got (lsB lnB) (fun xs => ∀ x ∈ xs, Ln.Ok x) bs q (some q1) xs) := GG
        have F1' : Hid (RS bs R v (some q1) ((wc.setCell ⟨R, 1, none⟩ (.int .i64 (q1 : Int))).setCell ⟨R, 2, none⟩ (.bool false))) := F1
        have F2' : Hid (w.grownBy ((wc.setCell ⟨R, 1, none⟩ (.int .i64 (q1 : Int))).setCell ⟨R, 2, none⟩ (.bool false)) (some R)) := grownBy_trans g1 F2
        clear F1 F2 PT D1 GG LE
        go_wp2_with fail
        go_ret
        exact ⟨a, n, c, xs, pvs, some q1, rfl, r1.out.row_grown (grownBy_trans (setCell_grown _ R 1 _) (setCell_grown _ R 2 _)) hR, F1'.out, F2'.out, (fun h => by cases h), (fun p h => by injection h with h; subst h; exact HGG.out)⟩
theorem TwI.mono {wb wb' : Nat} {wr : World} {v : Value} {ls : List Ln} {pvs : List Value} (h : TwI wb wr v ls pvs) (hb : wb' ≤ wb) : TwI wb' wr v ls pvs := ⟨h.len, h.row, fun g hg => Nat.le_trans hb (h.new g hg), h.pl, h.ap, h.lt, h.pb, fun i hi g hg => Nat.le_trans hb (h.pn i hi g hg)⟩
set_option maxRecDepth 20000 in
set_option maxHeartbeats 1000000 in
theorem takeListLn_at (bs : List Nat) (hb : ∀ c ∈ bs, c < 256) (hl : bs.length ≤ 100000000000) (R : Nat) (v : Value) (st : Option Nat) (w : World) (h : RS bs R v st w) :
    Calls Try.prog 83 #[.pointer (some ⟨R, 0, none⟩), loanF R] w (TlAns bs R v st w) := by
  have C : Hid (∀ w' B, Below w.heap.size w w' → w'.cell? ⟨B, 0, none⟩ = some (loanF R) → Calls Try.prog 105 #[.pointer (some ⟨R, 0, none⟩), .func (.func 106) #[] #[.pointer (some ⟨B, 0, none⟩)]] w' (TlAns bs R v st w')) := fun w' B h1 h2 => takeLn_at bs hb hl R B v st w' (h.below h1) h2
  clear h hb hl
  unfold loanF at *
  go_enter Try.func83, Try.ntmps83
  go_wp2_with fail
  refine (C.out _ _ (below_alloc w _) ((Blk.new _ [_] w).cell 0 _ rfl)).mono ?_
  rintro e w1 ⟨a, n, c, xs, pvs, st', rfl, r1, s1, g1, t1⟩
  have F : Hid (TlAns bs R v st w (.returned (.slice a n c)) w1) := ⟨a, n, c, xs, pvs, st', rfl, r1.mono (by simp), s1, grownBy_trans (grownBy_below (below_alloc w _) _) g1, t1⟩
  clear r1 s1 g1 t1
  go_wp2_with fail
  go_ret
  exact F.out
end Go.Proofs.Ytdbjjeaflfoppaa

namespace Go.Proofs.Ytdbjjeaflfoppaa
open Go.RowKit WsM

theorem po_got {bs : List Nat} {p : Nat} {s1 s2 s3 : Option Nat} {td : Int} {ls : List Ln} {ns : List Nt} (g1 : Got putI I64 bs p s1 td) (g2 : Stg (lsB lnB) (fun xs => ∀ x ∈ xs, Ln.Ok x) bs s1 s2 ls) (g3 : Stg (lsB owB) (fun xs => ∀ x ∈ xs, Nt.Ok x) bs s2 s3 ns) : Got poB Po.Ok bs p s3 ⟨td, ls, ns⟩ := by
  have pl : Pin (fun xs : List Ln => ∀ x ∈ xs, x.Ok) (lsB lnB) := list_pin ln_pin
  have h2 := fun q (hq : s1 = some q) => Got.seq pl (g2.2 q hq) g3.2 g3.1
  have h1 := Got.seq putI_pinP g1 h2 (fun e => g3.1 (g2.1 e))
  refine Got.iso (g := poB) (OB := Po.Ok) (fun a : Int × (List Ln × List Nt) => (⟨a.1, a.2.1, a.2.2⟩ : Po)) ?_ (fun p op => ⟨(p.td, (p.ls, p.ns)), ⟨op.td _ (by simp), op.ls, op.ns⟩, rfl⟩) (fun a oa => ⟨fun z hz => by simp at hz; rw [hz]; exact oa.1, oa.2.1, oa.2.2⟩) h1
  intro a; rfl
/-- The memory of a value that was read: all in blocks from wb to ub. -/
def MemN (_ _ : Nat) (x : Nt) (C : List Value) (_ : World) : Prop := C = ntL x
def MemL (wb ub : Nat) (x : Ln) (C : List Value) (w : World) : Prop := ∃ a n c, C = lnL x (.slice a n c) ∧ RdS 4 w (.slice a n c) (x.pl.map insL) ∧ ∀ g, (Value.slice a n c).ownBlock = some g → wb ≤ g ∧ g < ub
def MemP (wb ub : Nat) (x : Po) (C : List Value) (w : World) : Prop := ∃ a n c b m d pvs, C = [.int .i64 x.td, .slice a n c, .slice b m d] ∧ TwI wb w (.slice a n c) x.ls pvs ∧ (∀ g, (Value.slice a n c).ownBlock = some g → g < ub) ∧ (∀ i, i < x.ls.length → ∀ g, (pvs.getD i .nilFunc).ownBlock = some g → g < ub) ∧ RdS 6 w (.slice b m d) (x.ns.map ntL) ∧ ∀ g, (Value.slice b m d).ownBlock = some g → wb ≤ g ∧ g < ub
theorem MemN.grown {wb ub E : Nat} {x : Nt} {C : List Value} {w w' : World} (h : MemN wb ub x C w) (_ : w.grownBy w' (some E)) (_ : E < wb ∨ ub ≤ E) : MemN wb ub x C w' := h
theorem MemN.later {wb ub : Nat} {x : Nt} {C : List Value} {w w' : World} (h : MemN wb ub x C w) (_ : Below w.heap.size w w') : MemN wb ub x C w' := h
theorem MemN.mono {wb wb' ub ub' : Nat} {x : Nt} {C : List Value} {w : World} (h : MemN wb ub x C w) (_ : wb' ≤ wb) (_ : ub ≤ ub') : MemN wb' ub' x C w := h
theorem MemL.grown {wb ub E : Nat} {x : Ln} {C : List Value} {w w' : World} (h : MemL wb ub x C w) (g : w.grownBy w' (some E)) (hE : E < wb ∨ ub ≤ E) : MemL wb ub x C w' := by
  obtain ⟨a, n, c, e, r, b⟩ := h
  exact ⟨a, n, c, e, r.grown g (fun z hz e => by have := b z hz; injection e with e; omega), b⟩
theorem MemL.later {wb ub : Nat} {x : Ln} {C : List Value} {w w' : World} (h : MemL wb ub x C w) (g : Below w.heap.size w w') : MemL wb ub x C w' := by
  obtain ⟨a, n, c, e, r, b⟩ := h
  exact ⟨a, n, c, e, r.later g, b⟩
theorem MemL.mono {wb wb' ub ub' : Nat} {x : Ln} {C : List Value} {w : World} (h : MemL wb ub x C w) (h1 : wb' ≤ wb) (h2 : ub ≤ ub') : MemL wb' ub' x C w := by
  obtain ⟨a, n, c, e, r, b⟩ := h
  exact ⟨a, n, c, e, r, fun g hg => by have := b g hg; omega⟩
theorem MemP.grown {wb ub E : Nat} {x : Po} {C : List Value} {w w' : World} (h : MemP wb ub x C w) (g : w.grownBy w' (some E)) (hE : E < wb ∨ ub ≤ E) : MemP wb ub x C w' := by
  obtain ⟨a, n, c, b, m, d, pvs, e, t, l1, l2, r, k⟩ := h
  exact ⟨a, n, c, b, m, d, pvs, e, t.apart g (fun z hz e => by have := t.new z hz; have := l1 z hz; omega) (fun i hi z hz e => by have := t.pn i hi z hz; have := l2 i hi z hz; omega), l1, l2, r.grown g (fun z hz e => by have := k z hz; injection e with e; omega), k⟩
theorem MemP.later {wb ub : Nat} {x : Po} {C : List Value} {w w' : World} (h : MemP wb ub x C w) (g : Below w.heap.size w w') : MemP wb ub x C w' := by
  obtain ⟨a, n, c, b, m, d, pvs, e, t, l1, l2, r, k⟩ := h
  exact ⟨a, n, c, b, m, d, pvs, e, t.below g, l1, l2, r.later g, k⟩
theorem MemP.mono {wb wb' ub ub' : Nat} {x : Po} {C : List Value} {w : World} (h : MemP wb ub x C w) (h1 : wb' ≤ wb) (h2 : ub ≤ ub') : MemP wb' ub' x C w := by
  obtain ⟨a, n, c, b, m, d, pvs, e, t, l1, l2, r, k⟩ := h
  exact ⟨a, n, c, b, m, d, pvs, e, t.mono h1, fun g hg => by have := l1 g hg; omega, fun i hi g hg => by have := l2 i hi g hg; omega, r, fun g hg => by have := k g hg; omega⟩
/-- What a reader of a whole value answers. -/
def GetAns {α : Type} (Mem : Nat → Nat → α → List Value → World → Prop) (K : Nat) (f : α → List Nat) (Ok : α → Prop) (bs : List Nat) (R : Nat) (p : Nat) (w : World) (e : Ending) (w' : World) : Prop :=
  ∃ (x : α) (C : List Value) (y : Int) (st' : Option Nat), e = .returned (.tuple #[.agg C.toArray, .int .i64 y, .bool st'.isSome]) ∧ (∀ q, st' = some q → y = (q : Int)) ∧ w.grownBy w' (some R) ∧ C.length = K ∧ (∀ u ∈ C, u.oneCell' = true) ∧ Mem w.heap.size w'.heap.size x C w' ∧ Got f Ok bs p st' x
set_option maxRecDepth 40000 in
set_option maxHeartbeats 8000000 in
theorem state_at (bs : List Nat) (hb : ∀ c ∈ bs, c < 256) (hl : bs.length ≤ 100000000000) (R : Nat) (v : Value) (p : Nat) (w : World) (h : Seeks bs R v p w) :
    Calls Try.prog 62 #[.pointer (some ⟨R, 0, none⟩), v, .int .i64 (p : Int)] w (GetAns MemP 3 poB Po.Ok bs R p w) := by
  have CI : Hid (∀ W s, RS bs R v s W → Calls Try.prog 74 #[.pointer (some ⟨R, 0, none⟩)] W fun e w' => ∃ n s', e = .returned (.int .i64 n) ∧ tkI bs s = (n, s') ∧ RS bs R v s' w' ∧ W.grownBy w' (some R)) := fun W s hs => (number_at bs hb (by omega) R v s W hs).mono fun e w' ⟨h1, h2, h3⟩ => ⟨_, _, h1, rfl, h2, h3⟩
  have CL : Hid (∀ W s, RS bs R v s W → Calls Try.prog 83 #[.pointer (some ⟨R, 0, none⟩), .func (.func 54) #[.pointer (some ⟨R, 0, none⟩)] #[]] W (TlAns bs R v s W)) := fun W s hs => takeListLn_at bs hb hl R v s W hs
  have CN : Hid (∀ W s, RS bs R v s W → Calls Try.prog 84 #[.pointer (some ⟨R, 0, none⟩), .func (.func 85) #[.pointer (some ⟨R, 0, none⟩)] #[]] W (TkAns 6 ntL owB Nt.Ok bs R v s W)) := fun W s hs => takeListNt_at bs hb (by omega) R v s W hs
  have hmf : ∀ (fn : Fn) (first cap : Array Value) (w : World), (Instr.makeFunc fn first cap).run Try.prog w = .ok (.func fn first cap) w := fun _ _ _ _ => rfl
  have HB : Hid (∀ c ∈ bs, c < 256) := hb
  obtain ⟨hR, hV, hS⟩ := h
  have SK : Hid (∀ W, Below w.heap.size w W → Calls Try.prog 68 #[.pointer (some ⟨R, 0, none⟩), v, .int .i64 (p : Int)] W fun e w' => e = .returned (.tuple #[]) ∧ RS bs R v (some p) w' ∧ W.grownBy w' (some R)) := hS
  have DV : Hid (0 < bs.length → v.ownBlock = some w.heap.size → False) := fun h0 e => by have := hV h0 _ e; omega
  have DW : Hid (∀ g, w.heap.size ≤ g → 0 < bs.length → v.ownBlock = some g → False) := fun g hg h0 e => by have := hV h0 _ e; omega
  have B0 : Hid (Blk w.heap.size 32 [.int .i64 0, .slice none 0 0, .slice none 0 0] (w.alloc (.cells #[.int .i64 0, .slice none 0 0, .slice none 0 0] 32))) := Blk.new _ _ _
  have BW : Hid (Below w.heap.size w (w.alloc (.cells #[.int .i64 0, .slice none 0 0, .slice none 0 0] 32))) := below_alloc _ _
  have huT := Try.underlying32
  clear hb hl hV hS
  go_enter Try.func62, Try.ntmps62
  go_upto_region 1 with fail
  generalize w.alloc (.cells #[.int .i64 0, .slice none 0 0, .slice none 0 0] 32) = W0 at *
  obtain ⟨D, hD⟩ : ∃ D, w.heap.size = D := ⟨_, rfl⟩
  have HD : Hid (w.heap.size = D) := hD
  rw [hD] at B0 DV ⊢
  have RD : Hid (R ≠ D) := by show _ ≠ _; omega
  have LD : Hid (R < D) := by show _ < _; omega
  clear hD hR
  go_wp2_with fail
  refine (SK.out _ BW.out).mono ?_
  rintro e w1 ⟨rfl, k, g⟩
  have K1 : Hid (RS bs R v (some p) w1) := k
  have D1 : Hid (Blk D 32 [.int .i64 0, .slice none 0 0, .slice none 0 0] w1) := B0.out.grown g RD.out
  have G1 : Hid (w.grownBy w1 (some R)) := grownBy_trans (grownBy_below BW.out _) g
  have HPP : Hid (p ≤ bs.length) := k.le p rfl
  clear k g B0 BW SK
  go_wp2_with fail
  refine (CI.out _ _ K1.out).mono ?_
  rintro e w2 ⟨td, t1, rfl, eqx, k, g⟩
  have E0 : Hid (tkI bs (some p) = (td, t1)) := eqx
  have K2 : Hid (RS bs R v t1 w2) := k
  have D2 : Hid (Blk D 32 [.int .i64 0, .slice none 0 0, .slice none 0 0] w2) := D1.out.grown g RD.out
  have G2 : Hid (w.grownBy w2 (some R)) := grownBy_trans G1.out g
  clear k g eqx K1 D1 G1
  go_wp2_with fail
  refine (CL.out _ _ K2.out).mono ?_
  rintro e w3 ⟨a, n, c, ls, pvs, t2, rfl, tw, k, g, sg⟩
  have E1 : Hid (Stg (lsB lnB) (fun xs => ∀ x ∈ xs, Ln.Ok x) bs t1 t2 ls) := sg
  have K3 : Hid (RS bs R v t2 w3) := k
  have D3 : Hid (Blk D 32 [.int .i64 0, .slice none 0 0, .slice none 0 0] w3) := D2.out.grown g RD.out
  have G3 : Hid (w.grownBy w3 (some R)) := grownBy_trans G2.out g
  have T3 : Hid (TwI (D + 1) w3 (.slice a n c) ls pvs) := tw.mono D2.out.lt
  clear k g sg tw K2 D2 G2
  go_wp2_with fail
  refine (CN.out _ _ K3.out).mono ?_
  rintro e w4 ⟨b, m, d, ns, s9, rfl, rn, bn, k, g, gn, gt⟩
  have E2 : Hid (Stg (lsB owB) (fun xs => ∀ x ∈ xs, Nt.Ok x) bs t2 s9 ns) := ⟨gn, gt⟩
  have K4 : Hid (RS bs R v s9 w4) := k
  have D4 : Hid (Blk D 32 [.int .i64 0, .slice none 0 0, .slice none 0 0] w4) := D3.out.grown g RD.out
  have G4 : Hid (w.grownBy w4 (some R)) := grownBy_trans G3.out g
  have M4 : Hid (MemP (D + 1) w4.heap.size ⟨td, ls, ns⟩ [.int .i64 td, .slice a n c, .slice b m d] w4) := by
    have t4 := T3.out.row_grown g (by have := LD.out; omega)
    exact ⟨a, n, c, b, m, d, pvs, rfl, t4, t4.lt, t4.pb, rn, fun z hz => by have := bn z hz; have := D3.out.lt; omega⟩
  clear k g gn gt rn bn K3 D3 G3 T3
  have GT : Hid (Got poB Po.Ok bs p s9 ⟨td, ls, ns⟩) := by
    have q0 := tkI_got HB.out HPP.out
    rw [E0.out] at q0
    exact po_got q0 E1.out E2.out
  clear CI CL CN E0 E1 E2 HB
  obtain ⟨E, hE⟩ : ∃ E, w4.heap.size = E := ⟨_, rfl⟩
  have EG : Hid (D < E) := by show _ < _; rw [← hE]; exact D4.out.lt
  have DE : Hid (¬ D = E) := by show ¬ _; have := EG.out; omega
  have EN : Hid (Blk E 32 [.int .i64 0, .slice none 0 0, .slice none 0 0] (w4.alloc (.cells #[.int .i64 0, .slice none 0 0, .slice none 0 0] 32))) := by rw [← hE]; exact Blk.new _ _ _
  have DN : Hid (Blk D 32 [.int .i64 0, .slice none 0 0, .slice none 0 0] (w4.alloc (.cells #[.int .i64 0, .slice none 0 0, .slice none 0 0] 32))) := D4.out.below (below_alloc _ _)
  have KN : Hid (RS bs R v s9 (w4.alloc (.cells #[.int .i64 0, .slice none 0 0, .slice none 0 0] 32))) := K4.out.below (below_alloc _ _)
  have GN : Hid (w.grownBy (w4.alloc (.cells #[.int .i64 0, .slice none 0 0, .slice none 0 0] 32)) (some R)) := grownBy_trans G4.out (grownBy_below (below_alloc _ _) _)
  have MN : Hid (MemP (D + 1) E ⟨td, ls, ns⟩ [.int .i64 td, .slice a n c, .slice b m d] (w4.alloc (.cells #[.int .i64 0, .slice none 0 0, .slice none 0 0] 32))) := by rw [← hE]; exact M4.out.later (below_alloc _ _)
  clear D4 K4 G4 M4
  go_upto_region 3 with ((with_reducible refine at_store ?_); (try rw [hE]); refine step_store rfl 32 _ _ rfl E 0 32 [.int .i64 0, .slice none 0 0, .slice none 0 0] [.int .i64 td, .slice a n c, .slice b m d] rfl rfl EN.out (by show 0 + 3 ≤ 3; omega) (sz3 _ _ _) (fun u hu => by simp at hu; rcases hu with rfl | rfl | rfl <;> rfl) ?_; intro w9 nb gb; rw [store_all (by rfl)] at nb)
  have B9 : Hid (Blk E 32 [.int .i64 td, .slice a n c, .slice b m d] w9) := nb
  have D9 : Hid (Blk D 32 [.int .i64 0, .slice none 0 0, .slice none 0 0] w9) := DN.out.grown gb (fun e => DE.out e.symm)
  have K9 : Hid (RS bs R v s9 w9) := KN.out.other gb (fun e => by have := EG.out; have := LD.out; omega) (fun h0 e => DW.out _ (by have := EG.out; have := HD.out; omega) h0 e)
  have G9 : Hid (w.grownBy w9 (some R)) := grown_more GN.out gb (by have := EG.out; have := HD.out; omega)
  have M9 : Hid (MemP (D + 1) E ⟨td, ls, ns⟩ [.int .i64 td, .slice a n c, .slice b m d] w9) := MN.out.grown gb (.inr (Nat.le_refl _))
  clear nb gb EN DN KN GN MN
  obtain ⟨y, y1, hy⟩ := K9.out.c1
  have Y1 : Hid (∀ w', RS bs R v s9 w' → w'.cell? ⟨R, 1, none⟩ = some (.int .i64 y) → w'.cell? ⟨R, 2, none⟩ = some (.bool s9.isNone)) := fun w' h _ => h.c2
  have HY : Hid (∀ q, s9 = some q → y = (q : Int)) := hy
  obtain ⟨nb, hnb⟩ : ∃ b, s9.isNone = b := ⟨_, rfl⟩
  have NB : Hid (s9.isSome = !nb) := by show _ = _; rw [← hnb]; cases s9 <;> rfl
  have y2 : w9.cell? ⟨R, 2, none⟩ = some (.bool nb) := by rw [← hnb]; exact K9.out.c2
  clear hnb hy Y1
  refine wp_region_held_drew (S := fun w' => w'.cell? ⟨R, 1, none⟩ = some (.int .i64 y) ∧ w'.cell? ⟨R, 2, none⟩ = some (.bool nb) ∧ Blk E 32 ([.int .i64 td, .slice a n c, .slice b m d]) w') (by kernel_rfl) ⟨y1, y2, B9.out.drewN 1⟩ (fun hH => ?_)
  refine wpAnyH_take (i := 0) (oi := { dst := some 25, op := Op.load 32 (Operand.tmp 9), type := 32, pos := "reader.go:109", after := #[], guard := none }) (v := .agg ([.int .i64 td, .slice a n c, .slice b m d]).toArray) rfl (by kernel_rfl) (by kernel_rfl) (by kernel_rfl) (fun _ _ _ h => h) (yieldsIf_load_mid (by rfl) _ _ rfl E 0 rfl ([.int .i64 td, .slice a n c, .slice b m d]) _ (fun w' h => Blk.all h.2.2) huT rfl (sz3 _ _ _)) hH ?_
  try simp only [Act.put, List.setIfInBounds_toArray, List.set_cons_zero, List.set_cons_succ]
  refine wpAnyH_take (i := 1) (oi := { dst := some 26, op := Op.move (Operand.tmp 0), type := 129, pos := "reader.go:109", after := #[{ on := 10, ground := Ground.gcOnly Departure.lateStores }], guard := none }) (v := .pointer (some ⟨R, 0, none⟩)) rfl (by kernel_rfl) (by kernel_rfl) (by kernel_rfl) (fun _ _ _ h => h) (Or.inl ⟨by rfl, fun w' h => by go_simp⟩) hH ?_
  try simp only [Act.put, List.setIfInBounds_toArray, List.set_cons_zero, List.set_cons_succ]
  refine wpAnyH_take (i := 2) (oi := { dst := some 27, op := Op.nilCheck (Operand.tmp 26), type := 0, pos := "reader.go:109", after := #[{ on := 1, ground := Ground.data }, { on := 10, ground := Ground.gcOnly Departure.lateStores }], guard := none }) (v := .pointer (some ⟨R, 0, none⟩)) rfl (by kernel_rfl) (by kernel_rfl) (by kernel_rfl) (fun _ _ _ h => h) (Or.inl ⟨by rfl, fun w' h => by go_simp⟩) hH ?_
  try simp only [Act.put, List.setIfInBounds_toArray, List.set_cons_zero, List.set_cons_succ]
  refine wpAnyH_take (i := 3) (oi := { dst := some 28, op := Op.fieldAddr 92 (Operand.tmp 27) 1, type := 0, pos := "reader.go:109", after := #[{ on := 2, ground := Ground.data }, { on := 10, ground := Ground.gcOnly Departure.lateStores }], guard := none }) (v := .pointer (some ⟨R, 1, none⟩)) rfl (by kernel_rfl) (by kernel_rfl) (by kernel_rfl) (fun _ _ _ h => h) (Or.inl ⟨by rfl, fun w' h => by go_simp⟩) hH ?_
  try simp only [Act.put, List.setIfInBounds_toArray, List.set_cons_zero, List.set_cons_succ]
  refine wpAnyH_take (i := 4) (oi := { dst := some 29, op := Op.load 3 (Operand.tmp 28), type := 3, pos := "reader.go:109", after := #[{ on := 3, ground := Ground.data }, { on := 10, ground := Ground.gcOnly Departure.lateStores }], guard := none }) (v := .int .i64 y) rfl (by kernel_rfl) (by kernel_rfl) (by kernel_rfl) (fun _ _ _ h => h) (Or.inl ⟨by rfl, fun w' h => by have q := h.1; go_simp⟩) hH ?_
  try simp only [Act.put, List.setIfInBounds_toArray, List.set_cons_zero, List.set_cons_succ]
  refine wpAnyH_take (i := 5) (oi := { dst := some 30, op := Op.move (Operand.tmp 0), type := 129, pos := "reader.go:109", after := #[{ on := 11, ground := Ground.gcOnly Departure.lateStores }], guard := none }) (v := .pointer (some ⟨R, 0, none⟩)) rfl (by kernel_rfl) (by kernel_rfl) (by kernel_rfl) (fun _ _ _ h => h) (Or.inl ⟨by rfl, fun w' h => by go_simp⟩) hH ?_
  try simp only [Act.put, List.setIfInBounds_toArray, List.set_cons_zero, List.set_cons_succ]
  refine wpAnyH_take (i := 6) (oi := { dst := some 31, op := Op.nilCheck (Operand.tmp 30), type := 0, pos := "reader.go:109", after := #[{ on := 5, ground := Ground.data }, { on := 11, ground := Ground.gcOnly Departure.lateStores }], guard := none }) (v := .pointer (some ⟨R, 0, none⟩)) rfl (by kernel_rfl) (by kernel_rfl) (by kernel_rfl) (fun _ _ _ h => h) (Or.inl ⟨by rfl, fun w' h => by go_simp⟩) hH ?_
  try simp only [Act.put, List.setIfInBounds_toArray, List.set_cons_zero, List.set_cons_succ]
  refine wpAnyH_take (i := 7) (oi := { dst := some 32, op := Op.fieldAddr 92 (Operand.tmp 31) 2, type := 0, pos := "reader.go:109", after := #[{ on := 6, ground := Ground.data }, { on := 11, ground := Ground.gcOnly Departure.lateStores }], guard := none }) (v := .pointer (some ⟨R, 2, none⟩)) rfl (by kernel_rfl) (by kernel_rfl) (by kernel_rfl) (fun _ _ _ h => h) (Or.inl ⟨by rfl, fun w' h => by go_simp⟩) hH ?_
  try simp only [Act.put, List.setIfInBounds_toArray, List.set_cons_zero, List.set_cons_succ]
  refine wpAnyH_take (i := 8) (oi := { dst := some 33, op := Op.load 4 (Operand.tmp 32), type := 4, pos := "reader.go:109", after := #[{ on := 7, ground := Ground.data }, { on := 11, ground := Ground.gcOnly Departure.lateStores }], guard := none }) (v := .bool nb) rfl (by kernel_rfl) (by kernel_rfl) (by kernel_rfl) (fun _ _ _ h => h) (Or.inl ⟨by rfl, fun w' h => by have q := h.2.1; go_simp⟩) hH ?_
  try simp only [Act.put, List.setIfInBounds_toArray, List.set_cons_zero, List.set_cons_succ]
  refine wpAnyH_take (i := 9) (oi := { dst := some 34, op := Op.unOp UnOp.not 4 (Operand.tmp 33), type := 4, pos := "reader.go:109", after := #[{ on := 8, ground := Ground.data }, { on := 11, ground := Ground.gcOnly Departure.lateStores }], guard := none }) (v := .bool (!nb)) rfl (by kernel_rfl) (by kernel_rfl) (by kernel_rfl) (fun _ _ _ h => h) (Or.inl ⟨by rfl, fun w' h => by go_simp⟩) hH ?_
  try simp only [Act.put, List.setIfInBounds_toArray, List.set_cons_zero, List.set_cons_succ]
  refine wpAnyH_ready (rs := [10]) (by kernel_rfl) (by simp) ?_
  refine AllReadyH.cons (o := { dst := none, op := Op.store 32 (Operand.tmp 6) (Operand.tmp 25), type := 0, pos := "reader.go:109", after := #[{ on := 0, ground := Ground.data }, { on := 0, ground := Ground.phase }, { on := 1, ground := Ground.textOnly Departure.lateStores }, { on := 2, ground := Ground.textOnly Departure.lateStores }, { on := 3, ground := Ground.textOnly Departure.lateStores }, { on := 4, ground := Ground.textOnly Departure.lateStores }, { on := 5, ground := Ground.textOnly Departure.lateStores }, { on := 6, ground := Ground.textOnly Departure.lateStores }, { on := 7, ground := Ground.textOnly Departure.lateStores }, { on := 8, ground := Ground.textOnly Departure.lateStores }, { on := 9, ground := Ground.textOnly Departure.lateStores }], guard := none }) rfl (fun Kx hK => ?_) AllReadyH.nil
  refine op_putS (zs := [.int .i64 0, .slice none 0 0, .slice none 0 0]) ([.int .i64 td, .slice a n c, .slice b m d]) rfl (sz3 _ _ _) (fun u hu => by simp at hu; rcases hu with rfl | rfl | rfl <;> rfl) rfl _ _ rfl D rfl rfl (D9.out.drewN 1) ?_
  intro w10 b10 g10
  have K10 : Hid (RS bs R v s9 w10) := (K9.out.drewN 1).other g10 (fun e => RD.out e.symm) (fun h0 e => DV.out h0 e)
  have B10 : Hid (Blk E 32 ([.int .i64 td, .slice a n c, .slice b m d]) w10) := (B9.out.drewN 1).grown g10 (fun e => DE.out e)
  have G10 : Hid (w.grownBy w10 (some R)) := grown_more (grownBy_drewN G9.out 1) g10 (by rw [HD.out]; exact Nat.le_refl _)
  have N10 : Hid (Blk D 32 ([.int .i64 td, .slice a n c, .slice b m d]) w10) := b10
  have q1 : w10.cell? ⟨R, 1, none⟩ = some (.int .i64 y) := (World.cell?_of_block (a := ⟨R, 1, none⟩) (g10.block R (K9.out.lt) (fun e => RD.out (by injection e)))).trans y1
  have q2 : w10.cell? ⟨R, 2, none⟩ = some (.bool nb) := (World.cell?_of_block (a := ⟨R, 2, none⟩) (g10.block R (K9.out.lt) (fun e => RD.out (by injection e)))).trans y2
  refine hK.out _ _ ⟨q1, q2, B10.out⟩ (fun hH => ?_)
  try simp only [Act.put]
  refine wpAnyH_take (i := 11) (oi := { dst := some 7, op := Op.assign (Operand.tmp 29), type := 3, pos := "reader.go:109", after := #[{ on := 4, ground := Ground.data }, { on := 10, ground := Ground.chain }, { on := 0, ground := Ground.phase }, { on := 1, ground := Ground.phase }, { on := 2, ground := Ground.phase }, { on := 3, ground := Ground.phase }, { on := 4, ground := Ground.phase }, { on := 5, ground := Ground.textOnly Departure.lateStores }, { on := 6, ground := Ground.textOnly Departure.lateStores }, { on := 7, ground := Ground.textOnly Departure.lateStores }, { on := 8, ground := Ground.textOnly Departure.lateStores }, { on := 9, ground := Ground.textOnly Departure.lateStores }, { on := 10, ground := Ground.phase }], guard := none }) (v := .int .i64 y) rfl (by kernel_rfl) (by kernel_rfl) (by kernel_rfl) (fun _ _ _ h => h) (Or.inl ⟨by rfl, fun w' h => by go_simp⟩) hH ?_
  try simp only [Act.put, List.setIfInBounds_toArray, List.set_cons_zero, List.set_cons_succ]
  refine wpAnyH_take (i := 12) (oi := { dst := some 8, op := Op.assign (Operand.tmp 34), type := 4, pos := "reader.go:109", after := #[{ on := 9, ground := Ground.data }, { on := 11, ground := Ground.chain }, { on := 0, ground := Ground.phase }, { on := 1, ground := Ground.phase }, { on := 2, ground := Ground.phase }, { on := 3, ground := Ground.phase }, { on := 4, ground := Ground.phase }, { on := 5, ground := Ground.phase }, { on := 6, ground := Ground.phase }, { on := 7, ground := Ground.phase }, { on := 8, ground := Ground.phase }, { on := 9, ground := Ground.phase }, { on := 10, ground := Ground.phase }, { on := 11, ground := Ground.phase }], guard := none }) (v := .bool (!nb)) rfl (by kernel_rfl) (by kernel_rfl) (by kernel_rfl) (fun _ _ _ h => h) (Or.inl ⟨by rfl, fun w' h => by go_simp⟩) hH ?_
  try simp only [Act.put, List.setIfInBounds_toArray, List.set_cons_zero, List.set_cons_succ]
  refine wpAnyH_done (by kernel_rfl) ?_ _
  have M10 : Hid (MemP (D + 1) E ⟨td, ls, ns⟩ [.int .i64 td, .slice a n c, .slice b m d] w10) := (show MemP (D + 1) E ⟨td, ls, ns⟩ [.int .i64 td, .slice a n c, .slice b m d] (w9.drewN 1) from M9.out.later (below_drewN (Below.refl _ _) 1)).grown g10 (.inl (by omega))
  have S10 : Hid (E < w10.heap.size) := B10.out.lt
  clear hH hK b10 g10 q1 q2 y1 y2 B9 D9 M9
  go_wp2_with fail
  refine bodyPost_cell_tmp2 rfl rfl D 32 ([.int .i64 td, .slice a n c, .slice b m d] : List Value).toArray (0, 0) _ rfl N10.out Try.underlying32 rfl (sz3 _ _ _) ⟨⟨td, ls, ns⟩, [.int .i64 td, .slice a n c, .slice b m d], y, s9, ?_, HY.out, G10.out, rfl, (fun u hu => by simp at hu; rcases hu with rfl | rfl | rfl <;> rfl), M10.out.mono (by have := HD.out; omega) (by have := S10.out; omega), GT.out⟩
  rw [NB.out]; rfl
end Go.Proofs.Ytdbjjeaflfoppaa

namespace Go.Proofs.Ytdbjjeaflfoppaa
open Go.RowKit WsM

theorem Got.whole {α : Type} {f : α → List Nat} {Ok : α → Prop} (hp : Pin Ok f) {bs : List Nat} {st : Option Nat} {x : α} (h : Got f Ok bs 0 st x) :
    (st = some bs.length → Ok x ∧ bs = f x) ∧ (st ≠ some bs.length → ∀ y, Ok y → bs ≠ f y) := by
  refine ⟨fun e => ?_, fun e y oy eb => ?_⟩
  · obtain ⟨o, e1, -, -⟩ := h.yes _ e
    rw [List.drop_zero, List.drop_length, List.append_nil] at e1
    exact ⟨o, e1⟩
  · cases st with
    | none => exact h.no rfl y [] oy (by rw [List.drop_zero, List.append_nil]; exact eb)
    | some q =>
      obtain ⟨o, e1, l1, l2⟩ := h.yes q rfl
      rw [List.drop_zero] at e1
      have e2 : f x ++ bs.drop q = f y ++ [] := by rw [← e1, List.append_nil]; exact eb
      have e3 := (hp x y _ _ o oy e2).2
      have e4 : bs.length ≤ q := List.drop_eq_nil_iff.mp e3
      exact e (by rw [show q = bs.length by omega])
/-- What whole answers, and a Decode. -/
def DecAns {α : Type} (Mem : Nat → Nat → α → List Value → World → Prop) (K : Nat) (zs : List Value) (f : α → List Nat) (Ok : α → Prop) (bs : List Nat) (w : World) (e : Ending) (w' : World) : Prop :=
  ∃ (C : List Value) (k : Bool), e = .returned (.tuple #[.agg C.toArray, .bool k]) ∧ C.length = K ∧ (∀ u ∈ C, u.oneCell' = true) ∧ ((k = true ∧ ∃ x, Mem w.heap.size w'.heap.size x C w' ∧ Ok x ∧ bs = f x) ∨ (k = false ∧ C = zs ∧ ∀ x, Ok x → bs ≠ f x))
theorem nts_pin : Pin (fun n : Nt => n.Ok ∧ n.ak = false) ntB := fun x y r s hx hy h => by
  obtain ⟨e1, h⟩ := putFs_pin (hx.1.fL.trans hy.1.fL.symm) h
  refine ⟨?_, h⟩
  cases x; cases y; simp_all
theorem getNt_at (bs : List Nat) (hb : ∀ c ∈ bs, c < 256) (hl : bs.length ≤ 100000000000) (R : Nat) (v : Value) (p : Nat) (w : World) (h : Seeks bs R v p w) :
    Calls Try.prog 52 #[.pointer (some ⟨R, 0, none⟩), v, .int .i64 (p : Int)] w (GetAns MemN 6 ntB (fun n : Nt => n.Ok ∧ n.ak = false) bs R p w) :=
  (sent_at bs hb (by omega) R v p w h).mono fun _ _ ⟨x, y, st, h1, h2, _, h4, h5⟩ => ⟨x, _, y, st, h1, h2, h4, (ntL_one x).1, (ntL_one x).2, rfl, h5⟩
theorem getLn_at (bs : List Nat) (hb : ∀ c ∈ bs, c < 256) (hl : bs.length ≤ 100000000000) (R : Nat) (v : Value) (p : Nat) (w : World) (h : Seeks bs R v p w) :
    Calls Try.prog 54 #[.pointer (some ⟨R, 0, none⟩), v, .int .i64 (p : Int)] w (GetAns MemL 46 lnB Ln.Ok bs R p w) :=
  (loan_at bs hb (by omega) R v p w h).mono fun _ _ ⟨x, a, n, c, y, st, h1, h2, _, h4, h5, h6, h7⟩ => ⟨x, _, y, st, h1, h2, h4, (lnL_one rfl).1, (lnL_one rfl).2, ⟨a, n, c, rfl, h5, h6⟩, h7⟩

theorem szdNt {C : List Value} (h : C.length = 6) : (Try.prog.info? 28).map (·.size) = some C.length := by rw [h]; kernel_rfl
theorem onzNt : ([.int .i64 0, .int .i64 0, .int .i64 0, .int .i64 0, .int .i64 0, .bool false] : List Value).length = 6 ∧ ∀ u ∈ ([.int .i64 0, .int .i64 0, .int .i64 0, .int .i64 0, .int .i64 0, .bool false] : List Value), u.oneCell' = true := ⟨rfl, by decide⟩
set_option maxRecDepth 20000 in
set_option maxHeartbeats 4000000 in
theorem wholeNt_at (bs : List Nat) (hb : ∀ c ∈ bs, c < 256) (hl : bs.length ≤ 100000000000) (R : Nat) (v u0 u1 : Value) (w : World) (ty : TypeId) (h : Blk R ty [u0, u1, .bool false] w) (hr : RdB w v bs) (ha : 0 < bs.length → v.ownBlock ≠ some R) :
    Calls Try.prog 51 #[v, .func (.func 52) #[.pointer (some ⟨R, 0, none⟩)] #[]] w fun e w' => DecAns MemN 6 [.int .i64 0, .int .i64 0, .int .i64 0, .int .i64 0, .int .i64 0, .bool false] ntB (fun n : Nt => n.Ok ∧ n.ak = false) bs w e w' ∧ w.grownBy w' (some R) := by
  have OP : Hid (∀ w, Blk R ty [u0, u1, .bool false] w → RdB w v bs → Calls Try.prog 52 #[.pointer (some ⟨R, 0, none⟩), v, .int .i64 0] w (GetAns MemN 6 ntB (fun n : Nt => n.Ok ∧ n.ak = false) bs R 0 w)) := fun w h hr => getNt_at bs hb hl R v 0 w (Seeks.of_blk h hr ha)
  have hR := h.lt
  obtain ⟨L, hL⟩ : ∃ L, bs.length = L := ⟨_, rfl⟩
  obtain ⟨ao, cap, ev, _, _⟩ := hr.len
  have hl' : L ≤ 100000000000 := by omega
  rw [List.length_map, hL] at ev
  subst ev
  have H1 : Hid (Blk R ty [u0, u1, .bool false] (w.alloc (.cells #[.int .i64 0, .int .i64 0, .int .i64 0, .int .i64 0, .int .i64 0, .bool false] 28))) := h.below (below_alloc _ _)
  have R1 : Hid (RdB (w.alloc (.cells #[.int .i64 0, .int .i64 0, .int .i64 0, .int .i64 0, .int .i64 0, .bool false] 28)) (.slice ao L cap) bs) := Rd.later hr (below_alloc _ _)
  have B0 : Hid (Blk w.heap.size 28 [.int .i64 0, .int .i64 0, .int .i64 0, .int .i64 0, .int .i64 0, .bool false] (w.alloc (.cells #[.int .i64 0, .int .i64 0, .int .i64 0, .int .i64 0, .int .i64 0, .bool false] 28))) := Blk.new _ _ _
  have BW : Hid (Below w.heap.size w (w.alloc (.cells #[.int .i64 0, .int .i64 0, .int .i64 0, .int .i64 0, .int .i64 0, .bool false] 28))) := below_alloc _ _
  clear h hr ha hb hl
  have HL : Hid (bs.length = L) := hL
  clear hL
  go_enter Try.func51, Try.ntmps51
  go_upto_region 1 with fail
  generalize w.alloc (.cells #[.int .i64 0, .int .i64 0, .int .i64 0, .int .i64 0, .int .i64 0, .bool false] 28) = W0 at *
  obtain ⟨D, hD⟩ : ∃ D, w.heap.size = D := ⟨_, rfl⟩
  have HD : Hid (w.heap.size = D) := hD
  rw [hD] at B0 ⊢
  have RD : Hid (R ≠ D) := by show _ ≠ _; omega
  clear hD hR
  go_wp2_with fail
  refine (OP.out _ H1.out R1.out).mono ?_
  rintro e w2 ⟨x, C, y, st, rfl, hy, g, lc, oc, mm, gt⟩
  have D2 : Hid (Blk D 28 [.int .i64 0, .int .i64 0, .int .i64 0, .int .i64 0, .int .i64 0, .bool false] w2) := B0.out.grown g RD.out
  have G2 : Hid (w.grownBy w2 (some R)) := grownBy_trans (grownBy_below BW.out _) g
  have LC : Hid (C.length = 6) := lc
  have OC : Hid (∀ u ∈ C, u.oneCell' = true) := oc
  have HY : Hid (∀ q, st = some q → y = (q : Int)) := hy
  have M2 : Hid (MemN (D + 1) w2.heap.size x C w2) := mm.mono B0.out.lt (Nat.le_refl _)
  have GW : Hid ((st = some L → (fun n : Nt => n.Ok ∧ n.ak = false) x ∧ bs = ntB x) ∧ (st ≠ some L → ∀ y, (fun n : Nt => n.Ok ∧ n.ak = false) y → bs ≠ ntB y)) := by show _ ∧ _; rw [← HL.out]; exact Got.whole nts_pin gt
  clear g lc oc hy mm gt B0 BW H1 R1 OP HL
  obtain ⟨E, hE⟩ : ∃ E, w2.heap.size = E := ⟨_, rfl⟩
  have EG : Hid (D < E) := by show _ < _; rw [← hE]; exact D2.out.lt
  have EN : Hid (Blk E 28 [.int .i64 0, .int .i64 0, .int .i64 0, .int .i64 0, .int .i64 0, .bool false] (w2.alloc (.cells #[.int .i64 0, .int .i64 0, .int .i64 0, .int .i64 0, .int .i64 0, .bool false] 28))) := by rw [← hE]; exact Blk.new _ _ _
  have DN : Hid (Blk D 28 [.int .i64 0, .int .i64 0, .int .i64 0, .int .i64 0, .int .i64 0, .bool false] (w2.alloc (.cells #[.int .i64 0, .int .i64 0, .int .i64 0, .int .i64 0, .int .i64 0, .bool false] 28))) := D2.out.below (below_alloc _ _)
  have GN : Hid (w.grownBy (w2.alloc (.cells #[.int .i64 0, .int .i64 0, .int .i64 0, .int .i64 0, .int .i64 0, .bool false] 28)) (some R)) := grownBy_trans G2.out (grownBy_below (below_alloc _ _) _)
  have MN : Hid (MemN (D + 1) E x C (w2.alloc (.cells #[.int .i64 0, .int .i64 0, .int .i64 0, .int .i64 0, .int .i64 0, .bool false] 28))) := by rw [← hE]; exact M2.out.later (below_alloc _ _)
  clear D2 G2 M2
  by_cases ok : st = some L
  · subst ok
    obtain rfl := HY.out L rfl
    have e0 : ((L : Int) != (L : Int)) = false := by simp
    have YS : Hid ((fun n : Nt => n.Ok ∧ n.ak = false) x ∧ bs = ntB x) := GW.out.1 rfl
    simp only [Option.isSome]
    go_wp2_with (first
      | ((with_reducible refine at_store ?_); (try rw [hE]); refine step_store rfl 28 _ _ rfl E 0 28 [.int .i64 0, .int .i64 0, .int .i64 0, .int .i64 0, .int .i64 0, .bool false] C rfl rfl EN.out (by rw [LC.out]; show 0 + 6 ≤ 6; omega) (szdNt LC.out) OC.out ?_; intro w3 nb gb; rw [store_all (by rw [LC.out]; rfl)] at nb; have B3 : Hid (Blk E 28 C w3) := nb; have D3 : Hid (Blk D 28 [.int .i64 0, .int .i64 0, .int .i64 0, .int .i64 0, .int .i64 0, .bool false] w3) := DN.out.grown gb (fun e => by have := EG.out; omega); have G3 : Hid (w.grownBy w3 (some R)) := grown_more GN.out gb (by have := EG.out; have := HD.out; omega); have M3 : Hid (MemN (D + 1) E x C w3) := MN.out.grown gb (.inr (Nat.le_refl _)); clear nb gb EN DN GN MN)
      | ((with_reducible refine at_loadT 28 ?_); (try rw [hE]); refine step_load rfl 28 _ rfl E 0 rfl C _ B3.out.all Try.underlying28 rfl (szdNt LC.out) ?_)
      | ((with_reducible refine at_store ?_); refine step_store rfl 28 _ _ rfl D 0 28 [.int .i64 0, .int .i64 0, .int .i64 0, .int .i64 0, .int .i64 0, .bool false] C rfl rfl D3.out (by rw [LC.out]; show 0 + 6 ≤ 6; omega) (szdNt LC.out) OC.out ?_; intro w4 nb gb; rw [store_all (by rw [LC.out]; rfl)] at nb; have N4 : Hid (Blk D 28 C w4) := nb; have S4 : Hid (E < w4.heap.size) := Nat.lt_of_lt_of_le B3.out.lt gb.size; have G4 : Hid (w.grownBy w4 (some R)) := grown_more G3.out gb (by have := HD.out; omega); have M4 : Hid (MemN (D + 1) E x C w4) := M3.out.grown gb (.inl (by omega)); clear nb gb B3 D3 G3 M3))
    exact bodyPost_cell_tmp rfl rfl D 28 C.toArray (0, 0) _ rfl N4.out Try.underlying28 rfl (szdNt LC.out) ⟨⟨C, true, rfl, LC.out, OC.out, .inl ⟨rfl, x, M4.out.mono (by have := HD.out; omega) (by have := S4.out; omega), YS.out⟩⟩, G4.out⟩
  · have NO : Hid (∀ y, (fun n : Nt => n.Ok ∧ n.ak = false) y → bs ≠ ntB y) := GW.out.2 ok
    obtain ⟨sb, hsb⟩ : ∃ b, st.isSome = b := ⟨_, rfl⟩
    have HP : Hid ((!sb) = true ∨ (y != (L : Int)) = true) := by
      cases st with
      | none => left; rw [← hsb]; rfl
      | some q => right; rw [HY.out q rfl, bne_iff_ne]; intro h; exact ok (by rw [show q = L by omega])
    rw [hsb]
    clear hsb ok GW HY MN
    cases sb with
    | false =>
      go_wp2_with (first
        | ((with_reducible refine at_store ?_); (try rw [hE]); refine step_store rfl 28 _ _ rfl E 0 28 [.int .i64 0, .int .i64 0, .int .i64 0, .int .i64 0, .int .i64 0, .bool false] C rfl rfl EN.out (by rw [LC.out]; show 0 + 6 ≤ 6; omega) (szdNt LC.out) OC.out ?_; intro w3 nb gb; have D3 : Hid (Blk D 28 [.int .i64 0, .int .i64 0, .int .i64 0, .int .i64 0, .int .i64 0, .bool false] (w3.alloc (.cells #[.int .i64 0, .int .i64 0, .int .i64 0, .int .i64 0, .int .i64 0, .bool false] 28))) := (DN.out.grown gb (fun e => by have := EG.out; omega)).below (below_alloc _ _); have G3 : Hid (w.grownBy (w3.alloc (.cells #[.int .i64 0, .int .i64 0, .int .i64 0, .int .i64 0, .int .i64 0, .bool false] 28)) (some R)) := grownBy_trans (grown_more GN.out gb (by have := EG.out; have := HD.out; omega)) (grownBy_below (below_alloc _ _) _); have B3 : Hid (Blk w3.heap.size 28 [.int .i64 0, .int .i64 0, .int .i64 0, .int .i64 0, .int .i64 0, .bool false] (w3.alloc (.cells #[.int .i64 0, .int .i64 0, .int .i64 0, .int .i64 0, .int .i64 0, .bool false] 28))) := Blk.new _ _ _; clear nb gb EN DN GN)
        | ((with_reducible refine at_loadT 28 ?_); refine step_load rfl 28 _ rfl w3.heap.size 0 rfl [.int .i64 0, .int .i64 0, .int .i64 0, .int .i64 0, .int .i64 0, .bool false] _ B3.out.all Try.underlying28 rfl (szdNt onzNt.1) ?_)
        | ((with_reducible refine at_store ?_); refine step_store rfl 28 _ _ rfl D 0 28 [.int .i64 0, .int .i64 0, .int .i64 0, .int .i64 0, .int .i64 0, .bool false] [.int .i64 0, .int .i64 0, .int .i64 0, .int .i64 0, .int .i64 0, .bool false] rfl rfl D3.out (by show 0 + 6 ≤ 6; omega) (szdNt onzNt.1) onzNt.2 ?_; intro w4 nb gb; rw [store_all (by rfl)] at nb; have N4 : Hid (Blk D 28 [.int .i64 0, .int .i64 0, .int .i64 0, .int .i64 0, .int .i64 0, .bool false] w4) := nb; have G4 : Hid (w.grownBy w4 (some R)) := grown_more G3.out gb (by have := HD.out; omega); clear nb gb B3 D3 G3))
      exact bodyPost_cell_tmp rfl rfl D 28 _ (0, 0) _ rfl N4.out Try.underlying28 rfl (szdNt onzNt.1) ⟨⟨[.int .i64 0, .int .i64 0, .int .i64 0, .int .i64 0, .int .i64 0, .bool false], false, rfl, onzNt.1, onzNt.2, .inr ⟨rfl, rfl, NO.out⟩⟩, G4.out⟩
    | true =>
      have e0 : (y != (L : Int)) = true := HP.out.resolve_left (by decide)
      go_wp2_with (first
        | ((with_reducible refine at_store ?_); (try rw [hE]); refine step_store rfl 28 _ _ rfl E 0 28 [.int .i64 0, .int .i64 0, .int .i64 0, .int .i64 0, .int .i64 0, .bool false] C rfl rfl EN.out (by rw [LC.out]; show 0 + 6 ≤ 6; omega) (szdNt LC.out) OC.out ?_; intro w3 nb gb; have D3 : Hid (Blk D 28 [.int .i64 0, .int .i64 0, .int .i64 0, .int .i64 0, .int .i64 0, .bool false] (w3.alloc (.cells #[.int .i64 0, .int .i64 0, .int .i64 0, .int .i64 0, .int .i64 0, .bool false] 28))) := (DN.out.grown gb (fun e => by have := EG.out; omega)).below (below_alloc _ _); have G3 : Hid (w.grownBy (w3.alloc (.cells #[.int .i64 0, .int .i64 0, .int .i64 0, .int .i64 0, .int .i64 0, .bool false] 28)) (some R)) := grownBy_trans (grown_more GN.out gb (by have := EG.out; have := HD.out; omega)) (grownBy_below (below_alloc _ _) _); have B3 : Hid (Blk w3.heap.size 28 [.int .i64 0, .int .i64 0, .int .i64 0, .int .i64 0, .int .i64 0, .bool false] (w3.alloc (.cells #[.int .i64 0, .int .i64 0, .int .i64 0, .int .i64 0, .int .i64 0, .bool false] 28))) := Blk.new _ _ _; clear nb gb EN DN GN)
        | ((with_reducible refine at_loadT 28 ?_); refine step_load rfl 28 _ rfl w3.heap.size 0 rfl [.int .i64 0, .int .i64 0, .int .i64 0, .int .i64 0, .int .i64 0, .bool false] _ B3.out.all Try.underlying28 rfl (szdNt onzNt.1) ?_)
        | ((with_reducible refine at_store ?_); refine step_store rfl 28 _ _ rfl D 0 28 [.int .i64 0, .int .i64 0, .int .i64 0, .int .i64 0, .int .i64 0, .bool false] [.int .i64 0, .int .i64 0, .int .i64 0, .int .i64 0, .int .i64 0, .bool false] rfl rfl D3.out (by show 0 + 6 ≤ 6; omega) (szdNt onzNt.1) onzNt.2 ?_; intro w4 nb gb; rw [store_all (by rfl)] at nb; have N4 : Hid (Blk D 28 [.int .i64 0, .int .i64 0, .int .i64 0, .int .i64 0, .int .i64 0, .bool false] w4) := nb; have G4 : Hid (w.grownBy w4 (some R)) := grown_more G3.out gb (by have := HD.out; omega); clear nb gb B3 D3 G3))
      exact bodyPost_cell_tmp rfl rfl D 28 _ (0, 0) _ rfl N4.out Try.underlying28 rfl (szdNt onzNt.1) ⟨⟨[.int .i64 0, .int .i64 0, .int .i64 0, .int .i64 0, .int .i64 0, .bool false], false, rfl, onzNt.1, onzNt.2, .inr ⟨rfl, rfl, NO.out⟩⟩, G4.out⟩

set_option maxRecDepth 20000 in
set_option maxHeartbeats 4000000 in
theorem decodeNt_at (bs : List Nat) (hb : ∀ c ∈ bs, c < 256) (hl : bs.length ≤ 100000000000) (v : Value) (w : World) (hr : RdB w v bs) :
    Calls Try.prog 21 #[v] w fun e w' => DecAns MemN 6 [.int .i64 0, .int .i64 0, .int .i64 0, .int .i64 0, .int .i64 0, .bool false] ntB (fun n : Nt => n.Ok ∧ n.ak = false) bs w e w' ∧ Below w.heap.size w w' := by
  obtain ⟨D, hDe⟩ : ∃ D, w.heap.size = D := ⟨_, rfl⟩
  have HD : Hid (w.heap.size = D) := hDe
  have BB : Hid (Below w.heap.size w ((w.alloc (.cells #[.int .i64 0, .int .i64 0, .int .i64 0, .int .i64 0, .int .i64 0, .bool false] 28)).alloc (.cells #[.slice none 0 0, .int .i64 0, .bool false] 92))) := below_trans (below_alloc w _) (below_alloc _ _)
  have D1 : Hid (Blk D 28 [.int .i64 0, .int .i64 0, .int .i64 0, .int .i64 0, .int .i64 0, .bool false] ((w.alloc (.cells #[.int .i64 0, .int .i64 0, .int .i64 0, .int .i64 0, .int .i64 0, .bool false] 28)).alloc (.cells #[.slice none 0 0, .int .i64 0, .bool false] 92))) := by rw [← hDe]; exact (Blk.new _ _ w).below (below_alloc _ _)
  have R1 : Hid (Blk (D + 1) 92 [.slice none 0 0, .int .i64 0, .bool false] ((w.alloc (.cells #[.int .i64 0, .int .i64 0, .int .i64 0, .int .i64 0, .int .i64 0, .bool false] 28)).alloc (.cells #[.slice none 0 0, .int .i64 0, .bool false] 92))) := by rw [← hDe, ← (show (w.alloc (.cells #[.int .i64 0, .int .i64 0, .int .i64 0, .int .i64 0, .int .i64 0, .bool false] 28)).heap.size = w.heap.size + 1 by simp)]; exact Blk.new _ _ _
  have H1 : Hid (RdB ((w.alloc (.cells #[.int .i64 0, .int .i64 0, .int .i64 0, .int .i64 0, .int .i64 0, .bool false] 28)).alloc (.cells #[.slice none 0 0, .int .i64 0, .bool false] 92)) v bs) := Rd.later hr BB.out
  have hV : 0 < bs.length → v.ownBlock ≠ some (D + 1) := fun h0 e => by
    have := Rd.block hr (by rw [List.length_map]; exact h0) e
    omega
  have WH : Hid (∀ w, Blk (D + 1) 92 [.slice none 0 0, .int .i64 0, .bool false] w → RdB w v bs → Calls Try.prog 51 #[v, .func (.func 52) #[.pointer (some ⟨D + 1, 0, none⟩)] #[]] w fun e w' => DecAns MemN 6 [.int .i64 0, .int .i64 0, .int .i64 0, .int .i64 0, .int .i64 0, .bool false] ntB (fun n : Nt => n.Ok ∧ n.ak = false) bs w e w' ∧ w.grownBy w' (some (D + 1))) := fun w h hr => wholeNt_at bs hb hl (D + 1) v _ _ w 92 h hr hV
  clear hb hl hr hV
  have hmf : ∀ (fn : Fn) (first cap : Array Value) (w : World), (Instr.makeFunc fn first cap).run Try.prog w = .ok (.func fn first cap) w := fun _ _ _ _ => rfl
  have sz1 : (w.alloc (.cells #[.int .i64 0, .int .i64 0, .int .i64 0, .int .i64 0, .int .i64 0, .bool false] 28)).heap.size = D + 1 := by rw [← hDe]; simp
  go_enter Try.func21, Try.ntmps21
  go_upto_region 2 with fail
  clear sz1 hDe
  generalize (w.alloc (.cells #[.int .i64 0, .int .i64 0, .int .i64 0, .int .i64 0, .int .i64 0, .bool false] 28)).alloc (.cells #[.slice none 0 0, .int .i64 0, .bool false] 92) = W0 at *
  go_wp2_with fail
  refine (WH.out _ R1.out H1.out).mono ?_
  rintro e w2 ⟨⟨C, k, rfl, lc, oc, an⟩, g⟩
  have D2 : Hid (Blk D 28 [.int .i64 0, .int .i64 0, .int .i64 0, .int .i64 0, .int .i64 0, .bool false] w2) := D1.out.grown g (by omega)
  have G2 : Hid (Below w.heap.size w w2) := below_past2 BB.out g (by have := HD.out; omega)
  have LC : Hid (C.length = 6) := lc
  have OC : Hid (∀ u ∈ C, u.oneCell' = true) := oc
  have AN : Hid ((k = true ∧ ∃ x, MemN (D + 1) w2.heap.size x C w2 ∧ (fun n : Nt => n.Ok ∧ n.ak = false) x ∧ bs = ntB x) ∨ (k = false ∧ C = [.int .i64 0, .int .i64 0, .int .i64 0, .int .i64 0, .int .i64 0, .bool false] ∧ ∀ x, (fun n : Nt => n.Ok ∧ n.ak = false) x → bs ≠ ntB x)) := by
    rcases an with ⟨h1, x, h2, h3⟩ | h
    · exact .inl ⟨h1, x, h2.mono (Nat.le_of_lt (Nat.lt_of_le_of_lt (Nat.le_refl _) R1.out.lt)) (Nat.le_refl _), h3⟩
    · exact .inr h
  clear g lc oc an D1 BB R1 H1 WH
  go_wp2_with ((with_reducible refine at_store ?_); refine step_store rfl 28 _ _ rfl D 0 28 [.int .i64 0, .int .i64 0, .int .i64 0, .int .i64 0, .int .i64 0, .bool false] C rfl rfl D2.out (by rw [LC.out]; show 0 + 6 ≤ 6; omega) (szdNt LC.out) OC.out ?_; intro w4 nb gb; rw [store_all (by rw [LC.out]; rfl)] at nb; have N4 : Hid (Blk D 28 C w4) := nb; have G4 : Hid (Below w.heap.size w w4) := below_past2 G2.out gb (by have := HD.out; omega); have A4 : Hid ((k = true ∧ ∃ x, MemN (D + 1) w2.heap.size x C w4 ∧ (fun n : Nt => n.Ok ∧ n.ak = false) x ∧ bs = ntB x) ∨ (k = false ∧ C = [.int .i64 0, .int .i64 0, .int .i64 0, .int .i64 0, .int .i64 0, .bool false] ∧ ∀ x, (fun n : Nt => n.Ok ∧ n.ak = false) x → bs ≠ ntB x)) := AN.out.imp (fun ⟨h1, x, h2, h3⟩ => ⟨h1, x, h2.grown gb (.inl (by omega)), h3⟩) id; have S4 : Hid (w2.heap.size ≤ w4.heap.size) := gb.size; clear nb gb D2 G2 AN)
  exact bodyPost_cell_tmp rfl rfl D 28 C.toArray (0, 0) _ rfl N4.out Try.underlying28 rfl (szdNt LC.out) ⟨⟨C, k, rfl, LC.out, OC.out, A4.out.imp (fun ⟨h1, x, h2, h3⟩ => ⟨h1, x, h2.mono (by have := HD.out; omega) S4.out, h3⟩) id⟩, G4.out⟩

theorem szdLn {C : List Value} (h : C.length = 46) : (Try.prog.info? 65).map (·.size) = some C.length := by rw [h]; kernel_rfl
theorem onzLn : (zLn : List Value).length = 46 ∧ ∀ u ∈ (zLn : List Value), u.oneCell' = true := ⟨rfl, by decide⟩
set_option maxRecDepth 20000 in
set_option maxHeartbeats 4000000 in
theorem wholeLn_at (bs : List Nat) (hb : ∀ c ∈ bs, c < 256) (hl : bs.length ≤ 100000000000) (R : Nat) (v u0 u1 : Value) (w : World) (ty : TypeId) (h : Blk R ty [u0, u1, .bool false] w) (hr : RdB w v bs) (ha : 0 < bs.length → v.ownBlock ≠ some R) :
    Calls Try.prog 53 #[v, .func (.func 54) #[.pointer (some ⟨R, 0, none⟩)] #[]] w fun e w' => DecAns MemL 46 zLn lnB Ln.Ok bs w e w' ∧ w.grownBy w' (some R) := by
  have OP : Hid (∀ w, Blk R ty [u0, u1, .bool false] w → RdB w v bs → Calls Try.prog 54 #[.pointer (some ⟨R, 0, none⟩), v, .int .i64 0] w (GetAns MemL 46 lnB Ln.Ok bs R 0 w)) := fun w h hr => getLn_at bs hb hl R v 0 w (Seeks.of_blk h hr ha)
  have hR := h.lt
  obtain ⟨L, hL⟩ : ∃ L, bs.length = L := ⟨_, rfl⟩
  obtain ⟨ao, cap, ev, _, _⟩ := hr.len
  have hl' : L ≤ 100000000000 := by omega
  rw [List.length_map, hL] at ev
  subst ev
  have H1 : Hid (Blk R ty [u0, u1, .bool false] (w.alloc (.cells zLn.toArray 65))) := h.below (below_alloc _ _)
  have R1 : Hid (RdB (w.alloc (.cells zLn.toArray 65)) (.slice ao L cap) bs) := Rd.later hr (below_alloc _ _)
  have B0 : Hid (Blk w.heap.size 65 zLn (w.alloc (.cells zLn.toArray 65))) := Blk.new _ _ _
  have BW : Hid (Below w.heap.size w (w.alloc (.cells zLn.toArray 65))) := below_alloc _ _
  clear h hr ha hb hl
  have HL : Hid (bs.length = L) := hL
  clear hL
  go_enter Try.func53, Try.ntmps53
  go_upto_region 1 with fail
  generalize w.alloc (.cells zLn.toArray 65) = W0 at *
  obtain ⟨D, hD⟩ : ∃ D, w.heap.size = D := ⟨_, rfl⟩
  have HD : Hid (w.heap.size = D) := hD
  rw [hD] at B0 ⊢
  have RD : Hid (R ≠ D) := by show _ ≠ _; omega
  clear hD hR
  go_wp2_with fail
  refine (OP.out _ H1.out R1.out).mono ?_
  rintro e w2 ⟨x, C, y, st, rfl, hy, g, lc, oc, mm, gt⟩
  have D2 : Hid (Blk D 65 zLn w2) := B0.out.grown g RD.out
  have G2 : Hid (w.grownBy w2 (some R)) := grownBy_trans (grownBy_below BW.out _) g
  have LC : Hid (C.length = 46) := lc
  have OC : Hid (∀ u ∈ C, u.oneCell' = true) := oc
  have HY : Hid (∀ q, st = some q → y = (q : Int)) := hy
  have M2 : Hid (MemL (D + 1) w2.heap.size x C w2) := mm.mono B0.out.lt (Nat.le_refl _)
  have GW : Hid ((st = some L → Ln.Ok x ∧ bs = lnB x) ∧ (st ≠ some L → ∀ y, Ln.Ok y → bs ≠ lnB y)) := by show _ ∧ _; rw [← HL.out]; exact Got.whole ln_pin gt
  clear g lc oc hy mm gt B0 BW H1 R1 OP HL
  obtain ⟨E, hE⟩ : ∃ E, w2.heap.size = E := ⟨_, rfl⟩
  have EG : Hid (D < E) := by show _ < _; rw [← hE]; exact D2.out.lt
  have EN : Hid (Blk E 65 zLn (w2.alloc (.cells zLn.toArray 65))) := by rw [← hE]; exact Blk.new _ _ _
  have DN : Hid (Blk D 65 zLn (w2.alloc (.cells zLn.toArray 65))) := D2.out.below (below_alloc _ _)
  have GN : Hid (w.grownBy (w2.alloc (.cells zLn.toArray 65)) (some R)) := grownBy_trans G2.out (grownBy_below (below_alloc _ _) _)
  have MN : Hid (MemL (D + 1) E x C (w2.alloc (.cells zLn.toArray 65))) := by rw [← hE]; exact M2.out.later (below_alloc _ _)
  clear D2 G2 M2
  by_cases ok : st = some L
  · subst ok
    obtain rfl := HY.out L rfl
    have e0 : ((L : Int) != (L : Int)) = false := by simp
    have YS : Hid (Ln.Ok x ∧ bs = lnB x) := GW.out.1 rfl
    simp only [Option.isSome]
    go_wp2_with (first
      | ((with_reducible refine at_store ?_); (try rw [hE]); refine step_store rfl 65 _ _ rfl E 0 65 zLn C rfl rfl EN.out (by rw [LC.out]; show 0 + 46 ≤ 46; omega) (szdLn LC.out) OC.out ?_; intro w3 nb gb; rw [store_all (by rw [LC.out]; rfl)] at nb; have B3 : Hid (Blk E 65 C w3) := nb; have D3 : Hid (Blk D 65 zLn w3) := DN.out.grown gb (fun e => by have := EG.out; omega); have G3 : Hid (w.grownBy w3 (some R)) := grown_more GN.out gb (by have := EG.out; have := HD.out; omega); have M3 : Hid (MemL (D + 1) E x C w3) := MN.out.grown gb (.inr (Nat.le_refl _)); clear nb gb EN DN GN MN)
      | ((with_reducible refine at_loadT 65 ?_); (try rw [hE]); refine step_load rfl 65 _ rfl E 0 rfl C _ B3.out.all Try.underlying65 rfl (szdLn LC.out) ?_)
      | ((with_reducible refine at_store ?_); refine step_store rfl 65 _ _ rfl D 0 65 zLn C rfl rfl D3.out (by rw [LC.out]; show 0 + 46 ≤ 46; omega) (szdLn LC.out) OC.out ?_; intro w4 nb gb; rw [store_all (by rw [LC.out]; rfl)] at nb; have N4 : Hid (Blk D 65 C w4) := nb; have S4 : Hid (E < w4.heap.size) := Nat.lt_of_lt_of_le B3.out.lt gb.size; have G4 : Hid (w.grownBy w4 (some R)) := grown_more G3.out gb (by have := HD.out; omega); have M4 : Hid (MemL (D + 1) E x C w4) := M3.out.grown gb (.inl (by omega)); clear nb gb B3 D3 G3 M3))
    exact bodyPost_cell_tmp rfl rfl D 65 C.toArray (0, 0) _ rfl N4.out Try.underlying65 rfl (szdLn LC.out) ⟨⟨C, true, rfl, LC.out, OC.out, .inl ⟨rfl, x, M4.out.mono (by have := HD.out; omega) (by have := S4.out; omega), YS.out⟩⟩, G4.out⟩
  · have NO : Hid (∀ y, Ln.Ok y → bs ≠ lnB y) := GW.out.2 ok
    obtain ⟨sb, hsb⟩ : ∃ b, st.isSome = b := ⟨_, rfl⟩
    have HP : Hid ((!sb) = true ∨ (y != (L : Int)) = true) := by
      cases st with
      | none => left; rw [← hsb]; rfl
      | some q => right; rw [HY.out q rfl, bne_iff_ne]; intro h; exact ok (by rw [show q = L by omega])
    rw [hsb]
    clear hsb ok GW HY MN
    cases sb with
    | false =>
      go_wp2_with (first
        | ((with_reducible refine at_store ?_); (try rw [hE]); refine step_store rfl 65 _ _ rfl E 0 65 zLn C rfl rfl EN.out (by rw [LC.out]; show 0 + 46 ≤ 46; omega) (szdLn LC.out) OC.out ?_; intro w3 nb gb; have D3 : Hid (Blk D 65 zLn (w3.alloc (.cells zLn.toArray 65))) := (DN.out.grown gb (fun e => by have := EG.out; omega)).below (below_alloc _ _); have G3 : Hid (w.grownBy (w3.alloc (.cells zLn.toArray 65)) (some R)) := grownBy_trans (grown_more GN.out gb (by have := EG.out; have := HD.out; omega)) (grownBy_below (below_alloc _ _) _); have B3 : Hid (Blk w3.heap.size 65 zLn (w3.alloc (.cells zLn.toArray 65))) := Blk.new _ _ _; clear nb gb EN DN GN)
        | ((with_reducible refine at_loadT 65 ?_); refine step_load rfl 65 _ rfl w3.heap.size 0 rfl zLn _ B3.out.all Try.underlying65 rfl (szdLn onzLn.1) ?_)
        | ((with_reducible refine at_store ?_); refine step_store rfl 65 _ _ rfl D 0 65 zLn zLn rfl rfl D3.out (by show 0 + 46 ≤ 46; omega) (szdLn onzLn.1) onzLn.2 ?_; intro w4 nb gb; rw [store_all (by rfl)] at nb; have N4 : Hid (Blk D 65 zLn w4) := nb; have G4 : Hid (w.grownBy w4 (some R)) := grown_more G3.out gb (by have := HD.out; omega); clear nb gb B3 D3 G3))
      exact bodyPost_cell_tmp rfl rfl D 65 _ (0, 0) _ rfl N4.out Try.underlying65 rfl (szdLn onzLn.1) ⟨⟨zLn, false, rfl, onzLn.1, onzLn.2, .inr ⟨rfl, rfl, NO.out⟩⟩, G4.out⟩
    | true =>
      have e0 : (y != (L : Int)) = true := HP.out.resolve_left (by decide)
      go_wp2_with (first
        | ((with_reducible refine at_store ?_); (try rw [hE]); refine step_store rfl 65 _ _ rfl E 0 65 zLn C rfl rfl EN.out (by rw [LC.out]; show 0 + 46 ≤ 46; omega) (szdLn LC.out) OC.out ?_; intro w3 nb gb; have D3 : Hid (Blk D 65 zLn (w3.alloc (.cells zLn.toArray 65))) := (DN.out.grown gb (fun e => by have := EG.out; omega)).below (below_alloc _ _); have G3 : Hid (w.grownBy (w3.alloc (.cells zLn.toArray 65)) (some R)) := grownBy_trans (grown_more GN.out gb (by have := EG.out; have := HD.out; omega)) (grownBy_below (below_alloc _ _) _); have B3 : Hid (Blk w3.heap.size 65 zLn (w3.alloc (.cells zLn.toArray 65))) := Blk.new _ _ _; clear nb gb EN DN GN)
        | ((with_reducible refine at_loadT 65 ?_); refine step_load rfl 65 _ rfl w3.heap.size 0 rfl zLn _ B3.out.all Try.underlying65 rfl (szdLn onzLn.1) ?_)
        | ((with_reducible refine at_store ?_); refine step_store rfl 65 _ _ rfl D 0 65 zLn zLn rfl rfl D3.out (by show 0 + 46 ≤ 46; omega) (szdLn onzLn.1) onzLn.2 ?_; intro w4 nb gb; rw [store_all (by rfl)] at nb; have N4 : Hid (Blk D 65 zLn w4) := nb; have G4 : Hid (w.grownBy w4 (some R)) := grown_more G3.out gb (by have := HD.out; omega); clear nb gb B3 D3 G3))
      exact bodyPost_cell_tmp rfl rfl D 65 _ (0, 0) _ rfl N4.out Try.underlying65 rfl (szdLn onzLn.1) ⟨⟨zLn, false, rfl, onzLn.1, onzLn.2, .inr ⟨rfl, rfl, NO.out⟩⟩, G4.out⟩

set_option maxRecDepth 20000 in
set_option maxHeartbeats 4000000 in
theorem decodeLn_at (bs : List Nat) (hb : ∀ c ∈ bs, c < 256) (hl : bs.length ≤ 100000000000) (v : Value) (w : World) (hr : RdB w v bs) :
    Calls Try.prog 22 #[v] w fun e w' => DecAns MemL 46 zLn lnB Ln.Ok bs w e w' ∧ Below w.heap.size w w' := by
  obtain ⟨D, hDe⟩ : ∃ D, w.heap.size = D := ⟨_, rfl⟩
  have HD : Hid (w.heap.size = D) := hDe
  have BB : Hid (Below w.heap.size w ((w.alloc (.cells zLn.toArray 65)).alloc (.cells #[.slice none 0 0, .int .i64 0, .bool false] 92))) := below_trans (below_alloc w _) (below_alloc _ _)
  have D1 : Hid (Blk D 65 zLn ((w.alloc (.cells zLn.toArray 65)).alloc (.cells #[.slice none 0 0, .int .i64 0, .bool false] 92))) := by rw [← hDe]; exact (Blk.new _ _ w).below (below_alloc _ _)
  have R1 : Hid (Blk (D + 1) 92 [.slice none 0 0, .int .i64 0, .bool false] ((w.alloc (.cells zLn.toArray 65)).alloc (.cells #[.slice none 0 0, .int .i64 0, .bool false] 92))) := by rw [← hDe, ← (show (w.alloc (.cells zLn.toArray 65)).heap.size = w.heap.size + 1 by simp)]; exact Blk.new _ _ _
  have H1 : Hid (RdB ((w.alloc (.cells zLn.toArray 65)).alloc (.cells #[.slice none 0 0, .int .i64 0, .bool false] 92)) v bs) := Rd.later hr BB.out
  have hV : 0 < bs.length → v.ownBlock ≠ some (D + 1) := fun h0 e => by
    have := Rd.block hr (by rw [List.length_map]; exact h0) e
    omega
  have WH : Hid (∀ w, Blk (D + 1) 92 [.slice none 0 0, .int .i64 0, .bool false] w → RdB w v bs → Calls Try.prog 53 #[v, .func (.func 54) #[.pointer (some ⟨D + 1, 0, none⟩)] #[]] w fun e w' => DecAns MemL 46 zLn lnB Ln.Ok bs w e w' ∧ w.grownBy w' (some (D + 1))) := fun w h hr => wholeLn_at bs hb hl (D + 1) v _ _ w 92 h hr hV
  clear hb hl hr hV
  have hmf : ∀ (fn : Fn) (first cap : Array Value) (w : World), (Instr.makeFunc fn first cap).run Try.prog w = .ok (.func fn first cap) w := fun _ _ _ _ => rfl
  have sz1 : (w.alloc (.cells zLn.toArray 65)).heap.size = D + 1 := by rw [← hDe]; simp
  go_enter Try.func22, Try.ntmps22
  go_upto_region 2 with fail
  clear sz1 hDe
  generalize (w.alloc (.cells zLn.toArray 65)).alloc (.cells #[.slice none 0 0, .int .i64 0, .bool false] 92) = W0 at *
  go_wp2_with fail
  refine (WH.out _ R1.out H1.out).mono ?_
  rintro e w2 ⟨⟨C, k, rfl, lc, oc, an⟩, g⟩
  have D2 : Hid (Blk D 65 zLn w2) := D1.out.grown g (by omega)
  have G2 : Hid (Below w.heap.size w w2) := below_past2 BB.out g (by have := HD.out; omega)
  have LC : Hid (C.length = 46) := lc
  have OC : Hid (∀ u ∈ C, u.oneCell' = true) := oc
  have AN : Hid ((k = true ∧ ∃ x, MemL (D + 1) w2.heap.size x C w2 ∧ Ln.Ok x ∧ bs = lnB x) ∨ (k = false ∧ C = zLn ∧ ∀ x, Ln.Ok x → bs ≠ lnB x)) := by
    rcases an with ⟨h1, x, h2, h3⟩ | h
    · exact .inl ⟨h1, x, h2.mono (Nat.le_of_lt (Nat.lt_of_le_of_lt (Nat.le_refl _) R1.out.lt)) (Nat.le_refl _), h3⟩
    · exact .inr h
  clear g lc oc an D1 BB R1 H1 WH
  go_wp2_with ((with_reducible refine at_store ?_); refine step_store rfl 65 _ _ rfl D 0 65 zLn C rfl rfl D2.out (by rw [LC.out]; show 0 + 46 ≤ 46; omega) (szdLn LC.out) OC.out ?_; intro w4 nb gb; rw [store_all (by rw [LC.out]; rfl)] at nb; have N4 : Hid (Blk D 65 C w4) := nb; have G4 : Hid (Below w.heap.size w w4) := below_past2 G2.out gb (by have := HD.out; omega); have A4 : Hid ((k = true ∧ ∃ x, MemL (D + 1) w2.heap.size x C w4 ∧ Ln.Ok x ∧ bs = lnB x) ∨ (k = false ∧ C = zLn ∧ ∀ x, Ln.Ok x → bs ≠ lnB x)) := AN.out.imp (fun ⟨h1, x, h2, h3⟩ => ⟨h1, x, h2.grown gb (.inl (by omega)), h3⟩) id; have S4 : Hid (w2.heap.size ≤ w4.heap.size) := gb.size; clear nb gb D2 G2 AN)
  exact bodyPost_cell_tmp rfl rfl D 65 C.toArray (0, 0) _ rfl N4.out Try.underlying65 rfl (szdLn LC.out) ⟨⟨C, k, rfl, LC.out, OC.out, A4.out.imp (fun ⟨h1, x, h2, h3⟩ => ⟨h1, x, h2.mono (by have := HD.out; omega) S4.out, h3⟩) id⟩, G4.out⟩

theorem szdPo {C : List Value} (h : C.length = 3) : (Try.prog.info? 32).map (·.size) = some C.length := by rw [h]; kernel_rfl
theorem onzPo : ([.int .i64 0, .slice none 0 0, .slice none 0 0] : List Value).length = 3 ∧ ∀ u ∈ ([.int .i64 0, .slice none 0 0, .slice none 0 0] : List Value), u.oneCell' = true := ⟨rfl, by decide⟩
set_option maxRecDepth 20000 in
set_option maxHeartbeats 4000000 in
theorem wholePo_at (bs : List Nat) (hb : ∀ c ∈ bs, c < 256) (hl : bs.length ≤ 100000000000) (R : Nat) (v u0 u1 : Value) (w : World) (ty : TypeId) (h : Blk R ty [u0, u1, .bool false] w) (hr : RdB w v bs) (ha : 0 < bs.length → v.ownBlock ≠ some R) :
    Calls Try.prog 61 #[v, .func (.func 62) #[.pointer (some ⟨R, 0, none⟩)] #[]] w fun e w' => DecAns MemP 3 [.int .i64 0, .slice none 0 0, .slice none 0 0] poB Po.Ok bs w e w' ∧ w.grownBy w' (some R) := by
  have OP : Hid (∀ w, Blk R ty [u0, u1, .bool false] w → RdB w v bs → Calls Try.prog 62 #[.pointer (some ⟨R, 0, none⟩), v, .int .i64 0] w (GetAns MemP 3 poB Po.Ok bs R 0 w)) := fun w h hr => state_at bs hb hl R v 0 w (Seeks.of_blk h hr ha)
  have hR := h.lt
  obtain ⟨L, hL⟩ : ∃ L, bs.length = L := ⟨_, rfl⟩
  obtain ⟨ao, cap, ev, _, _⟩ := hr.len
  have hl' : L ≤ 100000000000 := by omega
  rw [List.length_map, hL] at ev
  subst ev
  have H1 : Hid (Blk R ty [u0, u1, .bool false] (w.alloc (.cells #[.int .i64 0, .slice none 0 0, .slice none 0 0] 32))) := h.below (below_alloc _ _)
  have R1 : Hid (RdB (w.alloc (.cells #[.int .i64 0, .slice none 0 0, .slice none 0 0] 32)) (.slice ao L cap) bs) := Rd.later hr (below_alloc _ _)
  have B0 : Hid (Blk w.heap.size 32 [.int .i64 0, .slice none 0 0, .slice none 0 0] (w.alloc (.cells #[.int .i64 0, .slice none 0 0, .slice none 0 0] 32))) := Blk.new _ _ _
  have BW : Hid (Below w.heap.size w (w.alloc (.cells #[.int .i64 0, .slice none 0 0, .slice none 0 0] 32))) := below_alloc _ _
  clear h hr ha hb hl
  have HL : Hid (bs.length = L) := hL
  clear hL
  go_enter Try.func61, Try.ntmps61
  go_upto_region 1 with fail
  generalize w.alloc (.cells #[.int .i64 0, .slice none 0 0, .slice none 0 0] 32) = W0 at *
  obtain ⟨D, hD⟩ : ∃ D, w.heap.size = D := ⟨_, rfl⟩
  have HD : Hid (w.heap.size = D) := hD
  rw [hD] at B0 ⊢
  have RD : Hid (R ≠ D) := by show _ ≠ _; omega
  clear hD hR
  go_wp2_with fail
  refine (OP.out _ H1.out R1.out).mono ?_
  rintro e w2 ⟨x, C, y, st, rfl, hy, g, lc, oc, mm, gt⟩
  have D2 : Hid (Blk D 32 [.int .i64 0, .slice none 0 0, .slice none 0 0] w2) := B0.out.grown g RD.out
  have G2 : Hid (w.grownBy w2 (some R)) := grownBy_trans (grownBy_below BW.out _) g
  have LC : Hid (C.length = 3) := lc
  have OC : Hid (∀ u ∈ C, u.oneCell' = true) := oc
  have HY : Hid (∀ q, st = some q → y = (q : Int)) := hy
  have M2 : Hid (MemP (D + 1) w2.heap.size x C w2) := mm.mono B0.out.lt (Nat.le_refl _)
  have GW : Hid ((st = some L → Po.Ok x ∧ bs = poB x) ∧ (st ≠ some L → ∀ y, Po.Ok y → bs ≠ poB y)) := by show _ ∧ _; rw [← HL.out]; exact Got.whole po_pin gt
  clear g lc oc hy mm gt B0 BW H1 R1 OP HL
  obtain ⟨E, hE⟩ : ∃ E, w2.heap.size = E := ⟨_, rfl⟩
  have EG : Hid (D < E) := by show _ < _; rw [← hE]; exact D2.out.lt
  have EN : Hid (Blk E 32 [.int .i64 0, .slice none 0 0, .slice none 0 0] (w2.alloc (.cells #[.int .i64 0, .slice none 0 0, .slice none 0 0] 32))) := by rw [← hE]; exact Blk.new _ _ _
  have DN : Hid (Blk D 32 [.int .i64 0, .slice none 0 0, .slice none 0 0] (w2.alloc (.cells #[.int .i64 0, .slice none 0 0, .slice none 0 0] 32))) := D2.out.below (below_alloc _ _)
  have GN : Hid (w.grownBy (w2.alloc (.cells #[.int .i64 0, .slice none 0 0, .slice none 0 0] 32)) (some R)) := grownBy_trans G2.out (grownBy_below (below_alloc _ _) _)
  have MN : Hid (MemP (D + 1) E x C (w2.alloc (.cells #[.int .i64 0, .slice none 0 0, .slice none 0 0] 32))) := by rw [← hE]; exact M2.out.later (below_alloc _ _)
  clear D2 G2 M2
  by_cases ok : st = some L
  · subst ok
    obtain rfl := HY.out L rfl
    have e0 : ((L : Int) != (L : Int)) = false := by simp
    have YS : Hid (Po.Ok x ∧ bs = poB x) := GW.out.1 rfl
    simp only [Option.isSome]
    go_wp2_with (first
      | ((with_reducible refine at_store ?_); (try rw [hE]); refine step_store rfl 32 _ _ rfl E 0 32 [.int .i64 0, .slice none 0 0, .slice none 0 0] C rfl rfl EN.out (by rw [LC.out]; show 0 + 3 ≤ 3; omega) (szdPo LC.out) OC.out ?_; intro w3 nb gb; rw [store_all (by rw [LC.out]; rfl)] at nb; have B3 : Hid (Blk E 32 C w3) := nb; have D3 : Hid (Blk D 32 [.int .i64 0, .slice none 0 0, .slice none 0 0] w3) := DN.out.grown gb (fun e => by have := EG.out; omega); have G3 : Hid (w.grownBy w3 (some R)) := grown_more GN.out gb (by have := EG.out; have := HD.out; omega); have M3 : Hid (MemP (D + 1) E x C w3) := MN.out.grown gb (.inr (Nat.le_refl _)); clear nb gb EN DN GN MN)
      | ((with_reducible refine at_loadT 32 ?_); (try rw [hE]); refine step_load rfl 32 _ rfl E 0 rfl C _ B3.out.all Try.underlying32 rfl (szdPo LC.out) ?_)
      | ((with_reducible refine at_store ?_); refine step_store rfl 32 _ _ rfl D 0 32 [.int .i64 0, .slice none 0 0, .slice none 0 0] C rfl rfl D3.out (by rw [LC.out]; show 0 + 3 ≤ 3; omega) (szdPo LC.out) OC.out ?_; intro w4 nb gb; rw [store_all (by rw [LC.out]; rfl)] at nb; have N4 : Hid (Blk D 32 C w4) := nb; have S4 : Hid (E < w4.heap.size) := Nat.lt_of_lt_of_le B3.out.lt gb.size; have G4 : Hid (w.grownBy w4 (some R)) := grown_more G3.out gb (by have := HD.out; omega); have M4 : Hid (MemP (D + 1) E x C w4) := M3.out.grown gb (.inl (by omega)); clear nb gb B3 D3 G3 M3))
    exact bodyPost_cell_tmp rfl rfl D 32 C.toArray (0, 0) _ rfl N4.out Try.underlying32 rfl (szdPo LC.out) ⟨⟨C, true, rfl, LC.out, OC.out, .inl ⟨rfl, x, M4.out.mono (by have := HD.out; omega) (by have := S4.out; omega), YS.out⟩⟩, G4.out⟩
  · have NO : Hid (∀ y, Po.Ok y → bs ≠ poB y) := GW.out.2 ok
    obtain ⟨sb, hsb⟩ : ∃ b, st.isSome = b := ⟨_, rfl⟩
    have HP : Hid ((!sb) = true ∨ (y != (L : Int)) = true) := by
      cases st with
      | none => left; rw [← hsb]; rfl
      | some q => right; rw [HY.out q rfl, bne_iff_ne]; intro h; exact ok (by rw [show q = L by omega])
    rw [hsb]
    clear hsb ok GW HY MN
    cases sb with
    | false =>
      go_wp2_with (first
        | ((with_reducible refine at_store ?_); (try rw [hE]); refine step_store rfl 32 _ _ rfl E 0 32 [.int .i64 0, .slice none 0 0, .slice none 0 0] C rfl rfl EN.out (by rw [LC.out]; show 0 + 3 ≤ 3; omega) (szdPo LC.out) OC.out ?_; intro w3 nb gb; have D3 : Hid (Blk D 32 [.int .i64 0, .slice none 0 0, .slice none 0 0] (w3.alloc (.cells #[.int .i64 0, .slice none 0 0, .slice none 0 0] 32))) := (DN.out.grown gb (fun e => by have := EG.out; omega)).below (below_alloc _ _); have G3 : Hid (w.grownBy (w3.alloc (.cells #[.int .i64 0, .slice none 0 0, .slice none 0 0] 32)) (some R)) := grownBy_trans (grown_more GN.out gb (by have := EG.out; have := HD.out; omega)) (grownBy_below (below_alloc _ _) _); have B3 : Hid (Blk w3.heap.size 32 [.int .i64 0, .slice none 0 0, .slice none 0 0] (w3.alloc (.cells #[.int .i64 0, .slice none 0 0, .slice none 0 0] 32))) := Blk.new _ _ _; clear nb gb EN DN GN)
        | ((with_reducible refine at_loadT 32 ?_); refine step_load rfl 32 _ rfl w3.heap.size 0 rfl [.int .i64 0, .slice none 0 0, .slice none 0 0] _ B3.out.all Try.underlying32 rfl (szdPo onzPo.1) ?_)
        | ((with_reducible refine at_store ?_); refine step_store rfl 32 _ _ rfl D 0 32 [.int .i64 0, .slice none 0 0, .slice none 0 0] [.int .i64 0, .slice none 0 0, .slice none 0 0] rfl rfl D3.out (by show 0 + 3 ≤ 3; omega) (szdPo onzPo.1) onzPo.2 ?_; intro w4 nb gb; rw [store_all (by rfl)] at nb; have N4 : Hid (Blk D 32 [.int .i64 0, .slice none 0 0, .slice none 0 0] w4) := nb; have G4 : Hid (w.grownBy w4 (some R)) := grown_more G3.out gb (by have := HD.out; omega); clear nb gb B3 D3 G3))
      exact bodyPost_cell_tmp rfl rfl D 32 _ (0, 0) _ rfl N4.out Try.underlying32 rfl (szdPo onzPo.1) ⟨⟨[.int .i64 0, .slice none 0 0, .slice none 0 0], false, rfl, onzPo.1, onzPo.2, .inr ⟨rfl, rfl, NO.out⟩⟩, G4.out⟩
    | true =>
      have e0 : (y != (L : Int)) = true := HP.out.resolve_left (by decide)
      go_wp2_with (first
        | ((with_reducible refine at_store ?_); (try rw [hE]); refine step_store rfl 32 _ _ rfl E 0 32 [.int .i64 0, .slice none 0 0, .slice none 0 0] C rfl rfl EN.out (by rw [LC.out]; show 0 + 3 ≤ 3; omega) (szdPo LC.out) OC.out ?_; intro w3 nb gb; have D3 : Hid (Blk D 32 [.int .i64 0, .slice none 0 0, .slice none 0 0] (w3.alloc (.cells #[.int .i64 0, .slice none 0 0, .slice none 0 0] 32))) := (DN.out.grown gb (fun e => by have := EG.out; omega)).below (below_alloc _ _); have G3 : Hid (w.grownBy (w3.alloc (.cells #[.int .i64 0, .slice none 0 0, .slice none 0 0] 32)) (some R)) := grownBy_trans (grown_more GN.out gb (by have := EG.out; have := HD.out; omega)) (grownBy_below (below_alloc _ _) _); have B3 : Hid (Blk w3.heap.size 32 [.int .i64 0, .slice none 0 0, .slice none 0 0] (w3.alloc (.cells #[.int .i64 0, .slice none 0 0, .slice none 0 0] 32))) := Blk.new _ _ _; clear nb gb EN DN GN)
        | ((with_reducible refine at_loadT 32 ?_); refine step_load rfl 32 _ rfl w3.heap.size 0 rfl [.int .i64 0, .slice none 0 0, .slice none 0 0] _ B3.out.all Try.underlying32 rfl (szdPo onzPo.1) ?_)
        | ((with_reducible refine at_store ?_); refine step_store rfl 32 _ _ rfl D 0 32 [.int .i64 0, .slice none 0 0, .slice none 0 0] [.int .i64 0, .slice none 0 0, .slice none 0 0] rfl rfl D3.out (by show 0 + 3 ≤ 3; omega) (szdPo onzPo.1) onzPo.2 ?_; intro w4 nb gb; rw [store_all (by rfl)] at nb; have N4 : Hid (Blk D 32 [.int .i64 0, .slice none 0 0, .slice none 0 0] w4) := nb; have G4 : Hid (w.grownBy w4 (some R)) := grown_more G3.out gb (by have := HD.out; omega); clear nb gb B3 D3 G3))
      exact bodyPost_cell_tmp rfl rfl D 32 _ (0, 0) _ rfl N4.out Try.underlying32 rfl (szdPo onzPo.1) ⟨⟨[.int .i64 0, .slice none 0 0, .slice none 0 0], false, rfl, onzPo.1, onzPo.2, .inr ⟨rfl, rfl, NO.out⟩⟩, G4.out⟩

set_option maxRecDepth 20000 in
set_option maxHeartbeats 4000000 in
theorem decodePo_at (bs : List Nat) (hb : ∀ c ∈ bs, c < 256) (hl : bs.length ≤ 100000000000) (v : Value) (w : World) (hr : RdB w v bs) :
    Calls Try.prog 24 #[v] w fun e w' => DecAns MemP 3 [.int .i64 0, .slice none 0 0, .slice none 0 0] poB Po.Ok bs w e w' ∧ Below w.heap.size w w' := by
  obtain ⟨D, hDe⟩ : ∃ D, w.heap.size = D := ⟨_, rfl⟩
  have HD : Hid (w.heap.size = D) := hDe
  have BB : Hid (Below w.heap.size w ((w.alloc (.cells #[.int .i64 0, .slice none 0 0, .slice none 0 0] 32)).alloc (.cells #[.slice none 0 0, .int .i64 0, .bool false] 92))) := below_trans (below_alloc w _) (below_alloc _ _)
  have D1 : Hid (Blk D 32 [.int .i64 0, .slice none 0 0, .slice none 0 0] ((w.alloc (.cells #[.int .i64 0, .slice none 0 0, .slice none 0 0] 32)).alloc (.cells #[.slice none 0 0, .int .i64 0, .bool false] 92))) := by rw [← hDe]; exact (Blk.new _ _ w).below (below_alloc _ _)
  have R1 : Hid (Blk (D + 1) 92 [.slice none 0 0, .int .i64 0, .bool false] ((w.alloc (.cells #[.int .i64 0, .slice none 0 0, .slice none 0 0] 32)).alloc (.cells #[.slice none 0 0, .int .i64 0, .bool false] 92))) := by rw [← hDe, ← (show (w.alloc (.cells #[.int .i64 0, .slice none 0 0, .slice none 0 0] 32)).heap.size = w.heap.size + 1 by simp)]; exact Blk.new _ _ _
  have H1 : Hid (RdB ((w.alloc (.cells #[.int .i64 0, .slice none 0 0, .slice none 0 0] 32)).alloc (.cells #[.slice none 0 0, .int .i64 0, .bool false] 92)) v bs) := Rd.later hr BB.out
  have hV : 0 < bs.length → v.ownBlock ≠ some (D + 1) := fun h0 e => by
    have := Rd.block hr (by rw [List.length_map]; exact h0) e
    omega
  have WH : Hid (∀ w, Blk (D + 1) 92 [.slice none 0 0, .int .i64 0, .bool false] w → RdB w v bs → Calls Try.prog 61 #[v, .func (.func 62) #[.pointer (some ⟨D + 1, 0, none⟩)] #[]] w fun e w' => DecAns MemP 3 [.int .i64 0, .slice none 0 0, .slice none 0 0] poB Po.Ok bs w e w' ∧ w.grownBy w' (some (D + 1))) := fun w h hr => wholePo_at bs hb hl (D + 1) v _ _ w 92 h hr hV
  clear hb hl hr hV
  have hmf : ∀ (fn : Fn) (first cap : Array Value) (w : World), (Instr.makeFunc fn first cap).run Try.prog w = .ok (.func fn first cap) w := fun _ _ _ _ => rfl
  have sz1 : (w.alloc (.cells #[.int .i64 0, .slice none 0 0, .slice none 0 0] 32)).heap.size = D + 1 := by rw [← hDe]; simp
  go_enter Try.func24, Try.ntmps24
  go_upto_region 2 with fail
  clear sz1 hDe
  generalize (w.alloc (.cells #[.int .i64 0, .slice none 0 0, .slice none 0 0] 32)).alloc (.cells #[.slice none 0 0, .int .i64 0, .bool false] 92) = W0 at *
  go_wp2_with fail
  refine (WH.out _ R1.out H1.out).mono ?_
  rintro e w2 ⟨⟨C, k, rfl, lc, oc, an⟩, g⟩
  have D2 : Hid (Blk D 32 [.int .i64 0, .slice none 0 0, .slice none 0 0] w2) := D1.out.grown g (by omega)
  have G2 : Hid (Below w.heap.size w w2) := below_past2 BB.out g (by have := HD.out; omega)
  have LC : Hid (C.length = 3) := lc
  have OC : Hid (∀ u ∈ C, u.oneCell' = true) := oc
  have AN : Hid ((k = true ∧ ∃ x, MemP (D + 1) w2.heap.size x C w2 ∧ Po.Ok x ∧ bs = poB x) ∨ (k = false ∧ C = [.int .i64 0, .slice none 0 0, .slice none 0 0] ∧ ∀ x, Po.Ok x → bs ≠ poB x)) := by
    rcases an with ⟨h1, x, h2, h3⟩ | h
    · exact .inl ⟨h1, x, h2.mono (Nat.le_of_lt (Nat.lt_of_le_of_lt (Nat.le_refl _) R1.out.lt)) (Nat.le_refl _), h3⟩
    · exact .inr h
  clear g lc oc an D1 BB R1 H1 WH
  go_wp2_with ((with_reducible refine at_store ?_); refine step_store rfl 32 _ _ rfl D 0 32 [.int .i64 0, .slice none 0 0, .slice none 0 0] C rfl rfl D2.out (by rw [LC.out]; show 0 + 3 ≤ 3; omega) (szdPo LC.out) OC.out ?_; intro w4 nb gb; rw [store_all (by rw [LC.out]; rfl)] at nb; have N4 : Hid (Blk D 32 C w4) := nb; have G4 : Hid (Below w.heap.size w w4) := below_past2 G2.out gb (by have := HD.out; omega); have A4 : Hid ((k = true ∧ ∃ x, MemP (D + 1) w2.heap.size x C w4 ∧ Po.Ok x ∧ bs = poB x) ∨ (k = false ∧ C = [.int .i64 0, .slice none 0 0, .slice none 0 0] ∧ ∀ x, Po.Ok x → bs ≠ poB x)) := AN.out.imp (fun ⟨h1, x, h2, h3⟩ => ⟨h1, x, h2.grown gb (.inl (by omega)), h3⟩) id; have S4 : Hid (w2.heap.size ≤ w4.heap.size) := gb.size; clear nb gb D2 G2 AN)
  exact bodyPost_cell_tmp rfl rfl D 32 C.toArray (0, 0) _ rfl N4.out Try.underlying32 rfl (szdPo LC.out) ⟨⟨C, k, rfl, LC.out, OC.out, A4.out.imp (fun ⟨h1, x, h2, h3⟩ => ⟨h1, x, h2.mono (by have := HD.out; omega) S4.out, h3⟩) id⟩, G4.out⟩
end Go.Proofs.Ytdbjjeaflfoppaa

namespace Go.Proofs.Ytdbjjeaflfoppaa
open Go.RowKit WsM

/-- From p to q there lie these bytes. -/
def Wn (l : List Nat) (bs : List Nat) (p q : Nat) : Prop := bs.drop p = l ++ bs.drop q ∧ q ≤ bs.length
theorem Wn.trans {l m bs : List Nat} {p q r : Nat} (h : Wn l bs p q) (k : Wn m bs q r) : Wn (l ++ m) bs p r := ⟨by rw [h.1, k.1, List.append_assoc], k.2⟩
theorem Wn.nil {bs : List Nat} {p : Nat} (h : p ≤ bs.length) : Wn [] bs p p := ⟨rfl, h⟩
theorem rd_went {bs : List Nat} (hb : ∀ c ∈ bs, c < 256) {p u n : Nat} (hp : p ≤ bs.length) (h : Go.Proofs.Ytdbjjeaflfoppaa.rd bs p = some (u, n)) : Wn (put u) bs p n := by
  obtain ⟨r, e1, e2, e3⟩ := (rd_iff bs p u n hb hp).1 h
  obtain ⟨_, _, l1, _⟩ := rd_le bs p u n hb h
  exact ⟨by rw [e2, ← List.drop_drop, e1, List.drop_left], l1⟩
theorem tkI_went {bs : List Nat} (hb : ∀ c ∈ bs, c < 256) {p q : Nat} (hp : p ≤ bs.length) (h : (tkI bs (some p)).2 = some q) : I64 (tkI bs (some p)).1 ∧ Wn (putI (tkI bs (some p)).1) bs p q := by
  obtain ⟨a, b, _, d⟩ := (tkI_got hb hp).yes q h
  exact ⟨a, b, d⟩
theorem tkIf_went {bs : List Nat} (hb : ∀ c ∈ bs, c < 256) {p q : Nat} {b : Bool} (hp : p ≤ bs.length) (h : (tkIf b bs (some p)).2 = some q) : I64 (tkIf b bs (some p)).1 ∧ Wn (if b = true then putI (tkIf b bs (some p)).1 else []) bs p q := by
  cases b with
  | true => exact tkI_went hb hp h
  | false =>
    have e : some p = some q := h
    injection e with e
    subst e
    exact ⟨by show I64 0; unfold I64; decide, Wn.nil hp⟩
theorem sB_textOf {ts : List Nat} (h : ∀ c ∈ ts, c < 256) : sB (textOf ts) = ts := by
  unfold sB textOf
  simp only [List.map_map]
  conv => rhs; rw [← List.map_id ts]
  refine List.map_congr_left fun c hc => ?_
  have := h c hc
  simp only [Function.comp_apply, id_eq]
  exact UInt8.toNat_ofNat_of_lt (by omega)
theorem textOf_size (ts : List Nat) : (textOf ts).size = ts.length := by
  show (ts.map UInt8.ofNat).toArray.size = _
  simp
theorem tkT_went {bs : List Nat} (hb : ∀ c ∈ bs, c < 256) {p q : Nat} (hp : p ≤ bs.length) (h : (tkT bs (some p)).2 = some q) : (tkT bs (some p)).1.size ≤ bs.length ∧ Wn (putT (sB (tkT bs (some p)).1)) bs p q := by
  unfold tkT textR at h ⊢
  simp only at h ⊢
  cases hr : lenR bs (p : Int) with
  | none => rw [hr] at h; cases h
  | some k =>
    obtain ⟨n, f⟩ := k
    rw [hr] at h
    simp only [Option.some.injEq] at h ⊢
    subst h
    obtain ⟨r1, r2, r3, r4⟩ := lenR_le hb hr
    have w1 := rd_went hb hp r1
    have lt : ((bs.drop f).take n).length = n := by rw [List.length_take, List.length_drop]; omega
    have bt : ∀ c ∈ (bs.drop f).take n, c < 256 := fun c hc => hb c (List.mem_of_mem_drop (List.mem_of_mem_take hc))
    refine ⟨by rw [textOf_size, lt]; omega, ?_⟩
    rw [sB_textOf bt]
    unfold putT
    rw [lt]
    refine w1.trans ⟨?_, r4⟩
    rw [← List.drop_drop, List.take_append_drop]
theorem tkTf_went {bs : List Nat} (hb : ∀ c ∈ bs, c < 256) {p q : Nat} {b : Bool} (hp : p ≤ bs.length) (h : (tkTf b bs (some p)).2 = some q) : (tkTf b bs (some p)).1.size ≤ bs.length ∧ Wn (if b = true then putT (sB (tkTf b bs (some p)).1) else []) bs p q := by
  cases b with
  | true => exact tkT_went hb hp h
  | false =>
    have e : some p = some q := h
    injection e with e
    subst e
    exact ⟨Nat.zero_le _, Wn.nil hp⟩
theorem opR_went {bs : List Nat} (hb : ∀ c ∈ bs, c < 256) (hl : bs.length ≤ 1000000000) {p q : Nat} (hp : p ≤ bs.length) (h : (opR bs (some p)).2 = some q) : (opR bs (some p)).1.Ok ∧ Wn (opL (opR bs (some p)).1) bs p q ∧ fmask (opR bs (some p)).1.kind ≠ none := by
  unfold opR at h ⊢
  simp only at h ⊢
  cases hm : fmask (tkI bs (some p)).1 with
  | none => simp only [hm] at h; cases h
  | some m =>
    simp only [hm] at h ⊢
    obtain ⟨q5, e5⟩ := tkTf_some h
    obtain ⟨q4, e4⟩ := tkIf_some e5
    obtain ⟨q3, e3⟩ := tkIf_some e4
    obtain ⟨q2, e2⟩ := tkIf_some e3
    obtain ⟨q1, e1⟩ := tkIf_some e2
    obtain ⟨q0, e0⟩ := tkIf_some e1
    simp only [e0] at e1
    simp only [e0, e1] at e2
    simp only [e0, e1, e2] at e3
    simp only [e0, e1, e2, e3] at e4
    simp only [e0, e1, e2, e3, e4] at e5
    simp only [e0, e1, e2, e3, e4, e5] at h ⊢
    have t0 := tkI_went hb hp e0
    have t1 := tkIf_went hb t0.2.2 e1
    have t2 := tkIf_went hb t1.2.2 e2
    have t3 := tkIf_went hb t2.2.2 e3
    have t4 := tkIf_went hb t3.2.2 e4
    have t5 := tkIf_went hb t4.2.2 e5
    have t6 := tkTf_went hb t5.2.2 h
    refine ⟨⟨t0.1, t1.1, t2.1, t3.1, t4.1, t5.1, Nat.le_trans t6.1 hl⟩, ?_, by simp⟩
    unfold opL
    simp only [hm]
    unfold opM
    simp only [iffB]
    exact (((((t0.2.trans t1.2).trans t2.2).trans t3.2).trans t4.2).trans t5.2).trans t6.2
theorem elemsI_went {bs : List Nat} (hb : ∀ c ∈ bs, c < 256) : ∀ (n p : Nat) (xs : List Int) (q : Nat), p ≤ bs.length → elemsI bs n p = some (xs, q) → I64s xs ∧ xs.length = n ∧ Wn (putFs xs) bs p q
  | 0, p, xs, q, hp, h => by
    simp [elemsI] at h
    obtain ⟨rfl, rfl⟩ := h
    exact ⟨fun y hy => (by cases hy), rfl, Wn.nil hp⟩
  | n + 1, p, xs, q, hp, h => by
    unfold elemsI at h
    cases hr : Go.Proofs.Ytdbjjeaflfoppaa.rd bs (p : Int) with
    | none => rw [hr] at h; cases h
    | some un =>
      obtain ⟨u, f⟩ := un
      rw [hr] at h
      simp only [Option.map_eq_some_iff] at h
      obtain ⟨⟨ys, q'⟩, h1, h2⟩ := h
      simp only [Prod.mk.injEq] at h2
      obtain ⟨rfl, rfl⟩ := h2
      have w1 := rd_went hb hp hr
      obtain ⟨_, _, _, e3⟩ := (rd_iff bs p u f hb hp).1 hr
      obtain ⟨a, b, c⟩ := elemsI_went hb n f ys q' w1.2 h1
      refine ⟨fun y hy => ?_, by simp [b], ?_⟩
      · rcases List.mem_cons.1 hy with rfl | hy
        · exact unzz_i64 u e3
        · exact a y hy
      · have ez : putI (unzz u) = put u := by unfold putI; rw [zz_unzz]
        have := w1.trans c
        rw [← ez] at this
        exact this
theorem tkL_went {bs : List Nat} (hb : ∀ c ∈ bs, c < 256) {p q : Nat} (hp : p ≤ bs.length) (h : (tkL bs (some p)).2 = some q) : I64s (tkL bs (some p)).1 ∧ (tkL bs (some p)).1.length ≤ bs.length ∧ Wn (putL (tkL bs (some p)).1) bs p q := by
  refine ⟨?_, tkL_len bs hb _, ?_⟩ <;>
  · unfold tkL listI at h ⊢
    simp only at h ⊢
    cases hr : lenR bs (p : Int) with
    | none => rw [hr] at h; cases h
    | some k =>
      obtain ⟨n, f⟩ := k
      rw [hr] at h
      simp only at h ⊢
      cases he : elemsI bs n f with
      | none => rw [he] at h; cases h
      | some xq =>
        obtain ⟨xs, q'⟩ := xq
        rw [he] at h
        simp only [Option.some.injEq] at h ⊢
        subst h
        obtain ⟨r1, r2, r3, r4⟩ := lenR_le hb hr
        have w1 := rd_went hb hp r1
        obtain ⟨a, b, c⟩ := elemsI_went hb n f xs q' w1.2 he
        first
          | exact a
          | (unfold putL; rw [b]; exact w1.trans c)
theorem opZ_ok0 : opZ.Ok := ⟨by unfold I64; decide, by unfold I64; decide, by unfold I64; decide, by unfold I64; decide, by unfold I64; decide, by unfold I64; decide, by decide⟩
theorem Wn.whole {l bs : List Nat} (h : Wn l bs 0 bs.length) : l = bs := by
  have := h.1
  rw [List.drop_zero, List.drop_length, List.append_nil] at this
  exact this.symm
/-- An operation that was read, told again. -/
theorem decO_back {bs : List Nat} (hb : ∀ c ∈ bs, c < 256) (hl : bs.length ≤ 1000000000) (h : (decO bs).2 = true) : (decO bs).1.Ok ∧ opL (decO bs).1 = bs := by
  unfold decO at h ⊢
  cases hr : (opR bs (some 0)).2 with
  | none => rw [hr] at h; cases h
  | some q =>
    rw [hr] at h
    simp only at h ⊢
    by_cases hq : q = bs.length
    · subst hq
      rw [if_pos rfl]
      obtain ⟨a, b, -⟩ := opR_went hb hl (Nat.zero_le _) hr
      exact ⟨a, b.whole⟩
    · rw [if_neg hq] at h; cases h
/-- A record that was read, told again. -/
theorem decR_back {bs : List Nat} (hb : ∀ c ∈ bs, c < 256) (hl : bs.length ≤ 1000000000) (h : (decR bs).2 = true) : (decR bs).1.2.1.Ok ∧ I64s (decR bs).1.2.2 ∧ (decR bs).1.2.2.length ≤ bs.length ∧ recL (decR bs).1.1 (decR bs).1.2.1 (decR bs).1.2.2 = bs := by
  have h2 := decR_ok.1 h
  have e : (decR bs).1 = (recR bs).1 := by unfold decR; rw [h2]; simp
  rw [e]
  unfold recR tkU at h2 ⊢
  simp only at h2 ⊢
  cases hr : Go.Proofs.Ytdbjjeaflfoppaa.rd bs ((0 : Nat) : Int) with
  | none => rw [hr] at h2; cases h2
  | some un =>
    obtain ⟨u, n⟩ := un
    rw [hr] at h2
    simp only at h2 ⊢
    have w1 := rd_went hb (Nat.zero_le _) hr
    unfold recW at h2 ⊢
    by_cases u1 : u = 1
    · rw [if_pos u1] at h2 ⊢
      simp only at h2 ⊢
      obtain ⟨a, b, c⟩ := opR_went hb hl w1.2 h2
      refine ⟨a, (fun y hy => by cases hy), Nat.zero_le _, ?_⟩
      unfold recL
      rw [if_pos rfl, if_neg c]
      rw [u1] at w1
      exact (w1.trans b).whole
    · rw [if_neg u1] at h2 ⊢
      by_cases u2 : u = 2
      · rw [if_pos u2] at h2 ⊢
        simp only at h2 ⊢
        obtain ⟨a, b, c⟩ := tkL_went hb w1.2 h2
        refine ⟨opZ_ok0, a, b, ?_⟩
        unfold recL
        rw [if_neg (by decide), if_pos rfl]
        rw [u2] at w1
        exact (w1.trans c).whole
      · rw [if_neg u2] at h2; cases h2
theorem flat_ge {α : Type} {f : α → List Nat} : ∀ xs : List α, (∀ x ∈ xs, 0 < (f x).length) → xs.length ≤ (xs.flatMap f).length
  | [], _ => Nat.le_refl _
  | x :: xs, h => by
    have h1 := h x (by simp)
    have h2 := flat_ge xs (fun y hy => h y (by simp [hy]))
    simp only [List.flatMap_cons, List.length_append, List.length_cons] at *
    omega
theorem flat_mem {α : Type} {f : α → List Nat} : ∀ (xs : List α) (x : α), x ∈ xs → (f x).length ≤ (xs.flatMap f).length
  | y :: ys, x, h => by
    simp only [List.flatMap_cons, List.length_append]
    rcases List.mem_cons.1 h with rfl | h
    · omega
    · have := flat_mem (f := f) ys x h; omega
theorem pl_le (l : Ln) (ok : l.Ok) : l.pl.length ≤ (lnB l).length := by
  have h := flat_ge (f := insB) l.pl (fun x hx => insB_pos x (ok.pl x hx))
  unfold lnB plB
  simp only [List.length_append]
  omega
theorem po_le (p : Po) (ok : p.Ok) : p.ls.length ≤ (poB p).length ∧ p.ns.length ≤ (poB p).length ∧ ∀ l ∈ p.ls, l.pl.length ≤ (poB p).length := by
  have h1 := flat_ge (f := lnB) p.ls (fun x hx => lnB_pos x (ok.ls x hx))
  have h2 := flat_ge (f := owB) p.ns (fun x hx => owB_pos x (ok.ns x hx))
  refine ⟨?_, ?_, fun l hl => ?_⟩
  · unfold poB; simp only [List.length_append]; omega
  · unfold poB; simp only [List.length_append]; omega
  · have a := pl_le l (ok.ls l hl)
    have b := flat_mem (f := lnB) p.ls l hl
    unfold poB; simp only [List.length_append]; omega
end Go.Proofs.Ytdbjjeaflfoppaa

namespace Go.Proofs.Ytdbjjeaflfoppaa
open Go.RowKit WsM

theorem opL_bytes (o : OpV) : Bytes (opL o) := by
  unfold opL
  split
  · exact opM_bytes _ _
  · intro c hc; cases hc
theorem decO_nil : decO [] = (opZ, false) := by
  have h : (opR [] (some 0)).2 = none := by
    have hr : Go.Proofs.Ytdbjjeaflfoppaa.rd [] ((0 : Nat) : Int) = none := by unfold Go.Proofs.Ytdbjjeaflfoppaa.rd; simp [rdL]
    have t : tkI [] (some 0) = (0, none) := by unfold tkI; simp only [hr]
    unfold opR
    simp only [t, show fmask 0 = none by decide]
  unfold decO
  rw [h]
/-- A told operation is read as what its kind uses. -/
theorem decO_is (o : OpV) (ok : o.Ok) : decO (opL o) = (usedV o, (fmask o.kind).isSome) := by
  cases hm : fmask o.kind with
  | none => rw [opL_none o hm, decO_nil]; unfold usedV; rw [hm]; rfl
  | some m =>
    have e : opL o = opM m o := by unfold opL; rw [hm]
    have hb := opL_bytes o
    rw [e] at hb ⊢
    have t := opR_told hb (p := 0) ok hm (Nat.zero_le _) (r := []) (by rw [List.append_nil, List.drop_zero])
    unfold decO
    rw [t]
    simp only [Nat.zero_add, if_true, usedV_some hm, Option.isSome]
/-- A told record is read as what its kind uses. -/
theorem decR_is (k : Int) (o : OpV) (ok : o.Ok) (xs : List Int) (hx : I64s xs) (hl : xs.length ≤ 1000000000000) : decR (recL k o xs) = (if recOk k o = true then usR k o xs else (0, opZ, []), recOk k o) := by
  have hb := recL_bytes k o xs
  have h2 := decR_told k o ok xs hx hl hb
  refine Prod.ext ?_ h2
  show (decR (recL k o xs)).1 = _
  cases hk : recOk k o with
  | false =>
    rw [recL_none k o xs hk]
    have := decR_nil
    unfold decR at this ⊢
    cases hr : (recR []).2 with
    | none => simp
    | some q =>
      rw [hr] at this
      simp only at this ⊢
      by_cases c : q = ([] : List Nat).length
      · rw [if_pos c] at this; cases this
      · rw [if_neg c]; simp
  | true =>
    have hr := (recR_told k o ok xs hx hl hk hb).1
    have e0 : (decR (recL k o xs)).1 = (recR (recL k o xs)).1 := by unfold decR; rw [hr]; simp
    rw [e0, if_pos rfl]
    unfold recOk at hk
    by_cases k1 : k = 1
    · rw [if_pos k1] at hk
      obtain ⟨m, hm⟩ := Option.isSome_iff_exists.1 hk
      have e : recL k o xs = put 1 ++ opM m o := by
        unfold recL opL; rw [if_pos k1, if_neg (by rw [hm]; simp), hm]
      rw [e] at hb ⊢
      have t := tkU_told hb (p := 0) (Nat.zero_le _) (u := 1) (by omega) (r := opM m o) rfl
      obtain ⟨h2, hp2⟩ := drop_rest (bs := put 1 ++ opM m o) (Nat.zero_le _) (show (put 1 ++ opM m o).drop 0 = put 1 ++ opM m o from rfl)
      have t2 := opR_told hb ok hm hp2 (r := []) (by rw [List.append_nil]; exact h2)
      unfold recR
      rw [t, t2]
      unfold recW usR
      rw [if_pos rfl, if_pos k1, usedV_some hm]
    · rw [if_neg k1] at hk
      have k2 : k = 2 := by simpa using hk
      have e : recL k o xs = put 2 ++ putL xs := by
        unfold recL; rw [if_neg k1, if_pos k2]
      rw [e] at hb ⊢
      have t := tkU_told hb (p := 0) (Nat.zero_le _) (u := 2) (by omega) (r := putL xs) rfl
      obtain ⟨h2, hp2⟩ := drop_rest (bs := put 2 ++ putL xs) (Nat.zero_le _) (show (put 2 ++ putL xs).drop 0 = put 2 ++ putL xs from rfl)
      have t2 := listI_told hb hx hl hp2 (r := []) (by rw [List.append_nil]; exact h2)
      unfold recR
      rw [t]
      unfold recW usR
      rw [if_neg (by omega), if_pos rfl, if_neg k1]
      unfold tkL
      simp only
      rw [t2]
/-- What usedRecord answers, as a record: what its kind uses, or nothing. -/
theorem usedRV_all (k : Int) (o : OpV) (ok : o.Ok) (a : Option Addr) (n c : Nat) (xs : List Int) (w : World) (h : RdI w (.slice a n c) xs) : ∃ (ku : Int) (ou : OpV) (ua : Option Addr) (un uc : Nat) (xu : List Int), usedRV k o (.slice a n c) = .agg (recC ku ou (.slice ua un uc)).toArray ∧ ou.Ok ∧ RdI w (.slice ua un uc) xu ∧ xu.length ≤ xs.length ∧ (ku, ou, xu) = (if recOk k o = true then usR k o xs else (0, opZ, [])) := by
  have rn : RdI w (.slice none 0 0) [] := ⟨none, 0, rfl, Nat.le_refl _, fun _ => rfl, fun i hi => by simp at hi⟩
  unfold usedRV
  by_cases k1 : k = 1
  · rw [if_pos k1]
    refine ⟨_, _, none, 0, 0, [], rfl, usedV_ok ok, rn, Nat.zero_le _, ?_⟩
    unfold recOk usR
    rw [if_pos k1, if_pos k1]
    cases hm : fmask o.kind with
    | none => unfold usedV; rw [hm]; rfl
    | some m => rfl
  · rw [if_neg k1]
    by_cases k2 : k = 2
    · rw [if_pos k2]
      refine ⟨_, _, a, n, c, xs, rfl, opZ_ok, h, Nat.le_refl _, ?_⟩
      unfold recOk usR
      rw [if_neg k1, if_neg k1, if_pos (by simpa using k2)]
    · rw [if_neg k2]
      refine ⟨_, _, none, 0, 0, [], rfl, opZ_ok, rn, Nat.zero_le _, ?_⟩
      unfold recOk
      rw [if_neg k1, if_neg (by simpa using k2)]
theorem ntB_bytes (n : Nt) : Bytes (ntB n) := fun c hc => by
  unfold ntB putFs at hc
  obtain ⟨x, _, hx⟩ := List.mem_flatMap.1 hc
  exact put_byte _ _ hx
/-- The told notice, read. -/
theorem decNotice_is (n : Nt) (ok : n.Ok) (v : Value) (W : World) (h : RdB W v (ntB n)) : Calls Try.prog 21 #[v] W fun e w' => e = .returned (.tuple #[.agg (ntL ⟨n.f, false⟩).toArray, .bool true]) ∧ Below W.heap.size W w' := by
  have l50 : (ntB n).length ≤ 50 := putFs_le ok.f ok.fL
  refine (decodeNt_at (ntB n) (ntB_bytes n) (by omega) v W h).mono fun e w' ⟨⟨C, k, h1, lc, oc, an⟩, h2⟩ => ?_
  rcases an with ⟨hk, x, m, okx, eb⟩ | ⟨_, _, no⟩
  · have m' : C = ntL x := m
    have e1 : x = ⟨n.f, false⟩ := by
      have := (nts_pin x ⟨n.f, false⟩ [] [] okx ⟨⟨ok.fL, ok.f⟩, rfl⟩ (by rw [← eb]; rfl)).1
      exact this
    rw [h1, m', e1, hk]
    exact ⟨rfl, h2⟩
  · exact absurd rfl (no ⟨n.f, false⟩ ⟨⟨ok.fL, ok.f⟩, rfl⟩)
end Go.Proofs.Ytdbjjeaflfoppaa

namespace Go.Proofs.Ytdbjjeaflfoppaa
open Go.RowKit WsM

theorem putFs_by (xs : List Int) : Bytes (putFs xs) := fun c hc => by
  unfold putFs at hc
  obtain ⟨x, _, hx⟩ := List.mem_flatMap.1 hc
  exact put_byte _ _ hx
theorem putB_by (z : Bool) : Bytes (putB z) := by cases z <;> decide
theorem flat_by {α : Type} {f : α → List Nat} (h : ∀ x, Bytes (f x)) (xs : List α) : Bytes (xs.flatMap f) := fun c hc => by
  obtain ⟨x, _, hx⟩ := List.mem_flatMap.1 hc
  exact h x c hx
theorem putI_by (y : Int) : Bytes (putI y) := put_byte _
theorem insB_by (i : Ins) : Bytes (insB i) := Bytes_app (putFs_by _) (putB_by _)
theorem lnB_by (l : Ln) : Bytes (lnB l) := by
  unfold lnB plB csB
  exact Bytes_app (putI_by _) (Bytes_app (putFs_by _) (Bytes_app (Bytes_app (put_byte _) (flat_by insB_by _)) (Bytes_app (putFs_by _) (Bytes_app (Bytes_app (putI_by _) (Bytes_app (putB_by _) (putFs_by _))) (Bytes_app (putFs_by _) (Bytes_app (putFs_by _) (Bytes_app (putB_by _) (putFs_by _))))))))
theorem owB_by (n : Nt) : Bytes (owB n) := Bytes_app (putFs_by _) (putB_by _)
theorem poB_by (p : Po) : Bytes (poB p) := by
  unfold poB
  exact Bytes_app (putI_by _) (Bytes_app (Bytes_app (put_byte _) (flat_by lnB_by _)) (Bytes_app (put_byte _) (flat_by owB_by _)))
theorem decLoan_is (l : Ln) (ok : l.Ok) (hl : (lnB l).length ≤ 100000000000) (v : Value) (W : World) (h : RdB W v (lnB l)) : Calls Try.prog 22 #[v] W fun e w' => ∃ a n c, e = .returned (.tuple #[.agg (lnL l (.slice a n c)).toArray, .bool true]) ∧ RdS 4 w' (.slice a n c) (l.pl.map insL) ∧ Below W.heap.size W w' := by
  refine (decodeLn_at (lnB l) (lnB_by l) hl v W h).mono fun e w' ⟨⟨C, k, h1, lc, oc, an⟩, h2⟩ => ?_
  rcases an with ⟨hk, x, ⟨a, n, c, m, rd, _⟩, okx, eb⟩ | ⟨_, _, no⟩
  · obtain rfl : l = x := (ln_pin l x [] [] ok okx (by rw [← eb])).1
    exact ⟨a, n, c, by rw [h1, m, hk], rd, h2⟩
  · exact absurd rfl (no l ok)
theorem decState_is (p : Po) (ok : p.Ok) (hl : (poB p).length ≤ 100000000000) (v : Value) (W : World) (h : RdB W v (poB p)) : Calls Try.prog 24 #[v] W fun e w' => ∃ a n c a' n' c', e = .returned (.tuple #[.agg #[.int .i64 p.td, .slice a n c, .slice a' n' c'], .bool true]) ∧ RdPo w' (.slice a n c) (.slice a' n' c') p ∧ Below W.heap.size W w' := by
  refine (decodePo_at (poB p) (poB_by p) hl v W h).mono fun e w' ⟨⟨C, k, h1, lc, oc, an⟩, h2⟩ => ?_
  rcases an with ⟨hk, x, m, okx, eb⟩ | ⟨_, _, no⟩
  · obtain rfl : p = x := (po_pin p x [] [] ok okx (by rw [← eb])).1
    obtain ⟨a, n, c, b, m', d, pvs, e0, t, -, -, r, -⟩ := m
    exact ⟨a, n, c, b, m', d, by rw [h1, e0, hk], ⟨⟨pvs, t.len, owns_rd (zip_K _ _) t.row, fun i hi => (t.pl i hi).1⟩, r⟩, h2⟩
  · exact absurd rfl (no p ok)
namespace WsM
def lnZ : Ln := ⟨0, [0, 0, 0, 0, 0, 0], [], [0, 0, 0, 0, 0, 0, 0, 0, 0, 0, 0, 0], 0, false, [0, 0, 0, 0, 0, 0, 0, 0, 0, 0, 0, 0, 0], [0, 0, 0], [0, 0, 0, 0, 0], false, [0, 0]⟩
def fstL (p : Po) : Ln := p.ls.getD 0 lnZ
end WsM
theorem zeros_i64 {xs : List Int} (h : ∀ x ∈ xs, x = 0) : I64s xs := fun x hx => by rw [h x hx]; decide
theorem lnZ_ok : lnZ.Ok := ⟨zeros_i64 (by decide), rfl, zeros_i64 (by decide), (fun i hi => by cases hi), rfl, zeros_i64 (by decide), zeros_i64 (by decide), rfl, zeros_i64 (by decide), rfl, zeros_i64 (by decide), rfl, zeros_i64 (by decide), rfl, zeros_i64 (by decide)⟩
theorem fstL_ok {p : Po} (ok : p.Ok) : (fstL p).Ok := by
  unfold fstL
  cases h : p.ls with
  | nil => exact lnZ_ok
  | cons l r => exact ok.ls l (by rw [h]; simp)
theorem fstL_len {p : Po} (h : (poB p).length ≤ 100000000000) : (lnB (fstL p)).length ≤ 100000000000 := by
  unfold fstL
  cases hc : p.ls with
  | nil => exact Nat.le_trans (show (lnB lnZ).length ≤ 1000 by decide +kernel) (by decide)
  | cons l r =>
    have := flat_mem (f := lnB) p.ls l (by rw [hc]; simp)
    unfold poB at h
    simp only [List.length_append] at h
    show (lnB l).length ≤ _
    omega
theorem step_build0 {P : Program} {ops : Array Oper} {rest : List Oper} {op : Oper} {a : Act} {w : World} {Q : Exit → Act → World → Prop} (hgd : op.guard = none) (ty : TypeId) (ho : op.op = .build ty #[]) (v : Value)
    (hr : (Instr.build ty #[]).run P w = .ok v w) (h : wpList P ops Q rest (a.put op.dst v) w) : wpList P ops Q (op :: rest) a w :=
  wpList_plain hgd fun _ hK => by
    unfold Oper.wp execOp
    simp only [ho, List.map_toArray, List.map_nil, Sem.run_bind, Sem.run_pure, Result.andThen_ok, hr]
    exact hK _ _ h
set_option maxRecDepth 40000 in
set_option maxHeartbeats 4000000 in
theorem first_no (td : Int) (la na : Option Addr) (lc nn nc : Nat) (w : World) :
    Calls Try.prog 27 #[.agg #[.int .i64 td, .slice la 0 lc, .slice na nn nc]] w fun e w' => e = .returned (.agg (lnL lnZ (.slice none 0 0)).toArray) ∧ Below w.heap.size w w' := by
  have N1 : Hid (Blk (w.heap.size + 1) 65 zLn ((w.alloc (.cells #[.int .i64 td, .slice la 0 lc, .slice na nn nc] 32)).alloc (.cells zLn.toArray 65))) := by have := Blk.new 65 zLn (w.alloc (.cells #[.int .i64 td, .slice la 0 lc, .slice na nn nc] 32)); rwa [show (w.alloc (.cells #[.int .i64 td, .slice la 0 lc, .slice na nn nc] 32)).heap.size = w.heap.size + 1 by simp] at this
  have c1 : ((w.alloc (.cells #[.int .i64 td, .slice la 0 lc, .slice na nn nc] 32)).alloc (.cells zLn.toArray 65)).cell? ⟨w.heap.size, 1, none⟩ = some (.slice la 0 lc) := ((Blk.new 32 [.int .i64 td, .slice la 0 lc, .slice na nn nc] w).below (below_alloc _ (.cells zLn.toArray 65))).cell 1 _ rfl
  have BB : Hid (Below w.heap.size w ((w.alloc (.cells #[.int .i64 td, .slice la 0 lc, .slice na nn nc] 32)).alloc (.cells zLn.toArray 65))) := below_trans (below_alloc _ _) (below_alloc _ _)
  have bz : ∀ w' : World, (Instr.build 65 #[]).run Try.prog w' = .ok (.agg (lnL lnZ (.slice none 0 0)).toArray) w' := fun w' => run_build _ _ _ _ (show Try.prog.built 65 [] = some (lnL lnZ (.slice none 0 0)).toArray by kernel_rfl)
  have BZ : Hid (∀ w' : World, (Instr.build 65 #[]).run Try.prog w' = .ok (.agg (lnL lnZ (.slice none 0 0)).toArray) w') := bz
  clear bz
  have O1 : Hid ((lnL lnZ (.slice none 0 0)).length = 46 ∧ ∀ u ∈ lnL lnZ (.slice none 0 0), u.oneCell' = true) := lnL_one rfl
  obtain ⟨FZ, hFZ⟩ : ∃ C, lnL lnZ (.slice none 0 0) = C := ⟨_, rfl⟩
  rw [hFZ] at BZ O1 ⊢
  clear hFZ
  go_enter Try.func27, Try.ntmps27
  go_wp2_with (first
    | ((with_reducible refine at_build 65 ?_); refine step_build0 rfl 65 rfl (.agg FZ.toArray) (BZ.out _) ?_)
    | ((with_reducible refine at_store ?_); refine step_store rfl 65 _ _ rfl (w.heap.size + 1) 0 65 zLn FZ rfl rfl N1.out (by rw [O1.out.1]; show 0 + 46 ≤ 46; omega) (szLn O1.out.1) O1.out.2 ?_; intro w5 nb5 g5; rw [store_all (by rw [O1.out.1]; rfl)] at nb5))
  exact ret_blk rfl rfl (w.heap.size + 1) 65 _ _ rfl nb5 Try.underlying65 rfl (szLn O1.out.1) ⟨rfl, below_past2 BB.out g5 (by omega)⟩
set_option maxRecDepth 40000 in
set_option maxHeartbeats 4000000 in
theorem first_yes (td : Int) (g o n : Nat) (na : Option Addr) (lc nn nc : Nat) (C : List Value) (lC : C.length = 46) (oC : ∀ u ∈ C, u.oneCell' = true) (w : World) (hg : g < w.heap.size) (hc : w.rangeAt g (o + 0 * 46) C) (h0 : 0 < n) :
    Calls Try.prog 27 #[.agg #[.int .i64 td, .slice (some ⟨g, o, none⟩) n lc, .slice na nn nc]] w fun e w' => e = .returned (.agg C.toArray) ∧ Below w.heap.size w w' := by
  obtain ⟨i0, hi, hz0, hz1, hz2⟩ := info_parts infoL46
  have N1 : Hid (Blk (w.heap.size + 1) 65 zLn ((w.alloc (.cells #[.int .i64 td, .slice (some ⟨g, o, none⟩) n lc, .slice na nn nc] 32)).alloc (.cells zLn.toArray 65))) := by have := Blk.new 65 zLn (w.alloc (.cells #[.int .i64 td, .slice (some ⟨g, o, none⟩) n lc, .slice na nn nc] 32)); rwa [show (w.alloc (.cells #[.int .i64 td, .slice (some ⟨g, o, none⟩) n lc, .slice na nn nc] 32)).heap.size = w.heap.size + 1 by simp] at this
  have c1 : ((w.alloc (.cells #[.int .i64 td, .slice (some ⟨g, o, none⟩) n lc, .slice na nn nc] 32)).alloc (.cells zLn.toArray 65)).cell? ⟨w.heap.size, 1, none⟩ = some (.slice (some ⟨g, o, none⟩) n lc) := ((Blk.new 32 [.int .i64 td, .slice (some ⟨g, o, none⟩) n lc, .slice na nn nc] w).below (below_alloc _ (.cells zLn.toArray 65))).cell 1 _ rfl
  have BB : Hid (Below w.heap.size w ((w.alloc (.cells #[.int .i64 td, .slice (some ⟨g, o, none⟩) n lc, .slice na nn nc] 32)).alloc (.cells zLn.toArray 65))) := below_trans (below_alloc _ _) (below_alloc _ _)
  have RG : Hid (((w.alloc (.cells #[.int .i64 td, .slice (some ⟨g, o, none⟩) n lc, .slice na nn nc] 32)).alloc (.cells zLn.toArray 65)).rangeAt g (o + 0 * 46) C) := fun j u hj => (BB.out.cell (p := ⟨g, _, none⟩) hg).trans (hc j u hj)
  have LC : Hid (C.length = 46) := lC
  have OC : Hid (∀ u ∈ C, u.oneCell' = true) := oC
  have d1 : ((n : Int) == 0) = false := by simp; omega
  have d2 : decide ((n : Int) = 0) = false := decide_eq_false (by omega)
  clear hc hg lC oC
  go_enter Try.func27, Try.ntmps27
  go_wp2_with (first
    | ((with_reducible refine at_loadT 65 ?_); refine step_load rfl 65 _ rfl g (o + 0 * 46) rfl C _ RG.out Try.underlying65 rfl (szLn LC.out) ?_)
    | ((with_reducible refine at_store ?_); refine step_store rfl 65 _ _ rfl (w.heap.size + 1) 0 65 zLn C rfl rfl N1.out (by rw [LC.out]; show 0 + 46 ≤ 46; omega) (szLn LC.out) OC.out ?_; intro w5 nb5 g5; rw [store_all (by rw [LC.out]; rfl)] at nb5))
  exact ret_blk rfl rfl (w.heap.size + 1) 65 _ _ rfl nb5 Try.underlying65 rfl (szLn LC.out) ⟨rfl, below_past2 BB.out g5 (by omega)⟩
end Go.Proofs.Ytdbjjeaflfoppaa

namespace Go.Proofs.Ytdbjjeaflfoppaa
open Go.RowKit WsM

theorem szOpC (o : OpV) : (Try.prog.info? 23).map (·.size) = some (opC o).length := by show _ = some 7; kernel_rfl
theorem szRec {C : List Value} (h : C.length = 9) : (Try.prog.info? 26).map (·.size) = some C.length := by rw [h]; kernel_rfl
theorem opC_one (o : OpV) : ∀ u ∈ opC o, u.oneCell' = true := fun u hu => by
  simp only [opC, List.mem_cons, List.not_mem_nil, or_false] at hu
  rcases hu with rfl | rfl | rfl | rfl | rfl | rfl | rfl <;> rfl
/-- The boxes of a record, a notice and a portfolio; all else is new. -/
structure Bx (w : World) (X : Nat) (r nn s : List Value) (W : World) : Prop where
  r : Blk X 26 r W
  n : Blk (X + 1) 28 nn W
  s : Blk (X + 1 + 1) 32 s W
  bb : Below w.heap.size w W
theorem Bx.later {w W W' : World} {X : Nat} {r nn s : List Value} (h : Bx w X r nn s W) (b : Below W.heap.size W W') : Bx w X r nn s W' := ⟨h.r.below b, h.n.below b, h.s.below b, below_trans h.bb b⟩
theorem Bx.drew {w W : World} {X : Nat} {r nn s : List Value} (h : Bx w X r nn s W) : Bx w X r nn s W.drew := h.later (below_drewN (Below.refl _ _) 1)
theorem Bx.start (w : World) (r nn s : List Value) : Bx w w.heap.size r nn s (((w.alloc (.cells r.toArray 26)).alloc (.cells nn.toArray 28)).alloc (.cells s.toArray 32)) := by
  have h2 := Blk.new 28 nn (w.alloc (.cells r.toArray 26))
  have h3 := Blk.new 32 s ((w.alloc (.cells r.toArray 26)).alloc (.cells nn.toArray 28))
  rw [size_al] at h2
  rw [size_al, size_al] at h3
  exact ⟨((Blk.new 26 r w).below (below_alloc _ _)).below (below_alloc _ _), h2.below (below_alloc _ _), h3, below_trans (below_trans (below_alloc _ _) (below_alloc _ _)) (below_alloc _ _)⟩
theorem Bx.op {w W : World} {X : Nat} {k : Int} {o : OpV} {va : Value} {nn s : List Value} (h : Bx w X (recC k o va) nn s W) : W.rangeAt X 1 (opC o) := fun j u hj => h.r.cell (1 + j) u (by
  rw [Nat.add_comm]
  show (opC o ++ [va])[j]? = some u
  rw [List.getElem?_append_left (List.getElem?_eq_some_iff.1 hj).1]
  exact hj)
theorem Bx.acked {w W : World} {X : Nat} {r s : List Value} {n : Nt} (h : Bx w X r (ntL n) s W) (hX : w.heap.size = X) : Bx w X r (ntL ⟨n.f, false⟩) s (W.setCell ⟨X + 1, 5, none⟩ (.bool false)) := by
  have g := setCell_grown W (X + 1) 5 (.bool false)
  exact ⟨h.r.grown g (by omega), Blk.set (i := 5) h.n (.bool false), h.s.grown g (by omega), below_past2 h.bb g (by omega)⟩
/-- The first loan, and the call that answers it. -/
theorem first_is (p : Po) (la na : Option Addr) (ln lc nn nc : Nat) (w : World) (h : RdPo w (.slice la ln lc) (.slice na nn nc) p) : ∃ fa fn fc, RdS 4 w (.slice fa fn fc) ((fstL p).pl.map insL) ∧ ∀ W, Below w.heap.size w W → Calls Try.prog 27 #[.agg #[.int .i64 p.td, .slice la ln lc, .slice na nn nc]] W fun e w' => e = .returned (.agg (lnL (fstL p) (.slice fa fn fc)).toArray) ∧ Below W.heap.size W w' := by
  obtain ⟨td, ls, ns⟩ := p
  obtain ⟨pvs, h1, h2, h3⟩ : RdLs w (.slice la ln lc) ls := h.ls
  cases ls with
  | nil =>
    obtain ⟨ao, cap, e, -, -, -⟩ := h2
    have e2 : ln = 0 := by injection e
    subst e2
    exact ⟨none, 0, 0, ⟨none, 0, rfl, Nat.le_refl _, fun _ => rfl, fun i hi => by cases hi⟩, fun W _ => first_no td la na lc nn nc W⟩
  | cons l r =>
    cases pvs with
    | nil => cases h1
    | cons pv ps =>
      have r4 : RdS 4 w pv (l.pl.map insL) := h3 0 (by simp)
      obtain ⟨fa, fc, ev, -, -⟩ := r4.len
      generalize (l.pl.map insL).length = fn at ev
      subst ev
      obtain ⟨ao, cap, e, hc, -, h4⟩ := h2
      obtain ⟨g, q, e1, lt, rg⟩ := h4 0 (by simp)
      have rg' : w.rangeAt g (q + 0 * 46) (lnL l (.slice fa fn fc)) := rg
      have e2 : la = ao ∧ ln = (List.zipWith lnL (l :: r) (Value.slice fa fn fc :: ps)).length := by injection e with a b c; exact ⟨a, b⟩
      obtain ⟨rfl, e3⟩ := e2
      subst e1
      exact ⟨fa, fn, fc, r4, fun W hb => first_yes td g q ln na lc nn nc _ (lnL_one rfl).1 (lnL_one rfl).2 W (Nat.lt_of_lt_of_le lt hb.size) (fun j u hj => (hb.cell (p := ⟨g, _, none⟩) lt).trans (rg' j u hj)) (by rw [e3]; simp)⟩
set_option maxRecDepth 40000 in
set_option maxHeartbeats 8000000 in
theorem wireBack_any (k : Int) (o : OpV) (ok : o.Ok) (xs : List Int) (hx : I64s xs) (va : Value) (w : World) (hl : xs.length ≤ 1048576) (hr0 : RdI w va xs) (n : Nt) (okN : n.Ok) (p : Po) (okP : p.Ok) (pP : PoB p) (svl svn : Value) (hS0 : RdPo w svl svn p) :
    Calls Try.prog 5 #[recV k o va, .agg (ntL n).toArray, .agg #[.int .i64 p.td, svl, svn]] w fun e w' => e = .returned (.bool true) ∧ Below w.heap.size w w' := by
  obtain ⟨aa, ac, ea, -, -⟩ := hr0.len
  obtain ⟨an, ean⟩ : ∃ m, (xs.map (Value.int .i64)).length = m := ⟨_, rfl⟩
  rw [ean] at ea
  subst ea
  have hr : RdI w (.slice aa an ac) xs := hr0
  clear hr0 ean
  obtain ⟨sla, sln, slc, sna, snn, snc, rfl, rfl⟩ := po_slices hS0
  obtain ⟨ku, ou, ua, un, uc, xu, ue, uok, ur, ul, ui⟩ := usedRV_all k o ok aa an ac xs w hr
  obtain ⟨fa, fn, fc, fr, fcall⟩ := first_is p sla sna sln slc snn snc w hS0
  have fok := fstL_ok okP
  have flen := fstL_len pP.len
  have fpl := pl_le _ fok
  have olen := opL_len o ok
  have rlen := recL_len k o ok xs hx (by omega)
  have EO : Hid (∀ W, Calls Try.prog 19 #[.agg (opC o).toArray] W fun e w' => ∃ a m c, e = .returned (.slice a m c) ∧ RdB w' (.slice a m c) (opL o) ∧ Below W.heap.size W w' ∧ ((fmask o.kind).isSome = false → m = 0)) := fun W => (encodeOp_at o ok W).mono fun e w' ⟨v, h1, h2, h3⟩ => by
    obtain ⟨a, c, ev, -, -⟩ := (RowV.rd h2).len
    refine ⟨a, _, c, by rw [h1, ev], by rw [← ev]; exact RowV.rd h2, h3, fun hi => ?_⟩
    rw [List.length_map, opL_none o (by simpa using hi)]; rfl
  have DO : Hid (∀ W v, RdB W v (opL o) → Calls Try.prog 17 #[v] W fun e w' => e = .returned (.tuple #[.agg (opC (usedV o)).toArray, .bool (fmask o.kind).isSome]) ∧ Below W.heap.size W w') := fun W v h => by
    have := decodeOp_at (opL o) (opL_bytes o) (by omega) v W h
    rw [decO_is o ok] at this
    exact this
  have US : Hid (∀ W, Calls Try.prog 25 #[.agg (opC o).toArray] W fun e w' => e = .returned (.tuple #[.agg (opC (usedV o)).toArray, .bool (fmask o.kind).isSome]) ∧ Below W.heap.size W w') := fun W => used_at o W
  have EQO : Hid (EqR 23 (opC (usedV o)) (opC (usedV o)) true) := by
    obtain ⟨r, h1, h2⟩ := eqOp (usedV o) (usedV o) (usedV_ok ok) (usedV_ok ok)
    rw [h2.2 rfl] at h1
    exact h1
  have TW : Hid (∀ W, Below w.heap.size w W → Calls Try.prog 8 #[.agg (recC k o (.slice aa an ac)).toArray] W fun e w' => ∃ va vn vc, e = .returned (.agg (recC k o (.slice va vn vc)).toArray) ∧ RdI w' (.slice va vn vc) xs ∧ Below W.heap.size W w') := fun W hb => (twinRecord_at k o xs _ W (by omega) (Rd.later hr hb)).mono fun e w' ⟨vb, h1, h2, h3⟩ => by
    obtain ⟨va, vc, ev, -, -⟩ := (RowV.rd h2).len
    exact ⟨va, _, vc, by rw [h1, ev]; rfl, by rw [← ev]; exact RowV.rd h2, h3⟩
  have ER : Hid (∀ W va vn vc, RdI W (.slice va vn vc) xs → Calls Try.prog 7 #[.agg (recC k o (.slice va vn vc)).toArray] W fun e w' => ∃ a m c, e = .returned (.slice a m c) ∧ RdB w' (.slice a m c) (recL k o xs) ∧ Below W.heap.size W w' ∧ (recOk k o = false → m = 0)) := fun W va vn vc h => (encodeRecord_at k o ok xs hx _ W h (by omega)).mono fun e w' ⟨v, h1, h2, h3⟩ => by
    obtain ⟨a, c, ev, -, -⟩ := (RowV.rd h2).len
    refine ⟨a, _, c, by rw [h1, ev], by rw [← ev]; exact RowV.rd h2, h3, fun hi => ?_⟩
    rw [List.length_map, recL_none k o xs hi]; rfl
  have DR : Hid (∀ W v, RdB W v (recL k o xs) → Calls Try.prog 20 #[v] W fun e w' => ∃ C : List Value, e = .returned (.tuple #[.agg C.toArray, .bool (recOk k o)]) ∧ C.length = 9 ∧ (∀ u ∈ C, u.oneCell' = true) ∧ Below W.heap.size W w' ∧ ∀ W', Below w'.heap.size w' W' → Below w.heap.size w W' → Calls Try.prog 11 #[.agg C.toArray, .agg (recC ku ou (.slice ua un uc)).toArray] W' fun e w'' => e = .returned (.bool true) ∧ Below W'.heap.size W' w'') := fun W v h => (decodeRecord_at (recL k o xs) (recL_bytes k o xs) (by omega) v W h).mono fun e w' ⟨⟨vb, h1, hv⟩, h2⟩ => by
    rw [decR_is k o ok xs hx (by omega), ← ui] at h1 hv
    obtain ⟨a, c, ev, -, -⟩ := (RowV.rd hv).len
    refine ⟨recC ku ou vb, h1, rfl, by rw [ev]; exact recC_one _ _ _ _ _, h2, fun W' b1 b2 => ?_⟩
    exact (sameRecordG_at ku ku ou ou uok uok xu xu vb _ W' (by omega) (Rd.later (RowV.rd hv) b1) (Rd.later ur b2)).mono fun e w'' ⟨⟨b, g1, g2⟩, g3⟩ => ⟨by rw [g1, g2.2 rfl], g3⟩
  have UR : Hid (∀ W, Calls Try.prog 9 #[.agg (recC k o (.slice aa an ac)).toArray] W fun e w' => e = .returned (.tuple #[.agg (recC ku ou (.slice ua un uc)).toArray, .bool (recOk k o)]) ∧ Below W.heap.size W w') := fun W => by
    have := usedRecord_at k o aa an ac W
    rw [ue] at this
    exact this
  have EN : Hid (∀ W, Calls Try.prog 12 #[.agg (ntL n).toArray] W fun e w' => ∃ v, e = .returned v ∧ RdB w' v (ntB n) ∧ Below W.heap.size W w') := fun W => (encNotice_yes n okN W).mono fun e w' ⟨v, h1, h2, h3⟩ => ⟨v, h1, RowV.rd h2, h3⟩
  have DN : Hid (∀ W v, RdB W v (ntB n) → Calls Try.prog 21 #[v] W fun e w' => e = .returned (.tuple #[.agg (ntL ⟨n.f, false⟩).toArray, .bool true]) ∧ Below W.heap.size W w') := fun W v h => decNotice_is n okN v W h
  have EQN : Hid (EqR 28 (ntL ⟨n.f, false⟩) (ntL ⟨n.f, false⟩) true) := by
    obtain ⟨r, h1, h2⟩ := eqNt ⟨n.f, false⟩ ⟨n.f, false⟩ ⟨okN.fL, okN.f⟩ ⟨okN.fL, okN.f⟩
    rw [h2.2 rfl] at h1
    exact h1
  have FI : Hid (∀ W, Below w.heap.size w W → Calls Try.prog 27 #[.agg #[.int .i64 p.td, .slice sla sln slc, .slice sna snn snc]] W fun e w' => e = .returned (.agg (lnL (fstL p) (.slice fa fn fc)).toArray) ∧ Below W.heap.size W w') := fcall
  have TWL : Hid (∀ W, Below w.heap.size w W → Calls Try.prog 26 #[.agg (lnL (fstL p) (.slice fa fn fc)).toArray] W fun e w' => ∃ C : List Value, e = .returned (.agg C.toArray) ∧ Below W.heap.size W w' ∧ Calls Try.prog 23 #[.agg C.toArray] w' fun e w'' => ∃ v, e = .returned v ∧ RdB w'' v (lnB (fstL p)) ∧ Below w'.heap.size w' w'') := fun W hb => (twinLoan_at (fstL p) _ W (fr.later hb) (by omega)).mono fun e w' ⟨pv', h1, h2, h3, _⟩ => ⟨_, h1, h3, (encLoan_at (fstL p) fok pv' w' h2 (by omega) (by omega)).mono fun e w'' ⟨v, g1, g2, g3⟩ => ⟨v, g1, RowV.rd g2, g3⟩⟩
  have DL : Hid (∀ W v, RdB W v (lnB (fstL p)) → Calls Try.prog 22 #[v] W fun e w' => ∃ C : List Value, e = .returned (.tuple #[.agg C.toArray, .bool true]) ∧ C.length = 46 ∧ (∀ u ∈ C, u.oneCell' = true) ∧ Below W.heap.size W w' ∧ ∀ W', Below w'.heap.size w' W' → Below w.heap.size w W' → Calls Try.prog 28 #[.agg C.toArray, .agg (lnL (fstL p) (.slice fa fn fc)).toArray] W' fun e w'' => e = .returned (.bool true) ∧ Below W'.heap.size W' w'') := fun W v h => (decLoan_is (fstL p) fok flen v W h).mono fun e w' ⟨a, m, c, h1, h2, h3⟩ => ⟨_, h1, (lnL_one rfl).1, (lnL_one rfl).2, h3, fun W' b1 b2 => (sameLoan_at (fstL p) (fstL p) fok fok _ _ W' (by omega) (h2.later b1) (fr.later b2)).mono fun e w'' ⟨⟨b, g1, g2⟩, g3⟩ => ⟨by rw [g1, g2.2 rfl], g3⟩⟩
  have TWS : Hid (∀ W, Below w.heap.size w W → Calls Try.prog 14 #[.agg #[.int .i64 p.td, .slice sla sln slc, .slice sna snn snc]] W fun e w' => ∃ C : List Value, e = .returned (.agg C.toArray) ∧ Below W.heap.size W w' ∧ Calls Try.prog 13 #[.agg C.toArray] w' fun e w'' => ∃ v, e = .returned v ∧ RdB w'' v (poB p) ∧ Below w'.heap.size w' w'') := fun W hb => (twinState_at p _ _ W (hS0.later hb) pP.ls pP.ns pP.pl).mono fun e w' ⟨vl', vn', h1, h2, h3⟩ => ⟨[.int .i64 p.td, vl', vn'], h1, h3, (encState_at p okP vl' vn' w' h2 (Nat.le_trans pP.ls (by decide)) (Nat.le_trans pP.ns (by decide)) pP.pl (Nat.le_trans pP.len (by decide))).mono fun e w'' ⟨v, g1, g2, g3⟩ => ⟨v, g1, RowV.rd g2, g3⟩⟩
  have DS : Hid (∀ W v, RdB W v (poB p) → Calls Try.prog 24 #[v] W fun e w' => ∃ C : List Value, e = .returned (.tuple #[.agg C.toArray, .bool true]) ∧ C.length = 3 ∧ (∀ u ∈ C, u.oneCell' = true) ∧ Below W.heap.size W w' ∧ ∀ W', Below w'.heap.size w' W' → Below w.heap.size w W' → Calls Try.prog 15 #[.agg C.toArray, .agg #[.int .i64 p.td, .slice sla sln slc, .slice sna snn snc]] W' fun e w'' => e = .returned (.bool true) ∧ Below W'.heap.size W' w'') := fun W v h => (decState_is p okP pP.len v W h).mono fun e w' ⟨a, m, c, a', m', c', h1, h2, h3⟩ => ⟨[.int .i64 p.td, .slice a m c, .slice a' m' c'], h1, rfl, (fun u hu => by simp at hu; rcases hu with rfl | rfl | rfl <;> rfl), h3, fun W' b1 b2 => (sameState_at p p okP okP _ _ _ _ W' (Nat.le_trans pP.ls (by decide)) (Nat.le_trans pP.ns (by decide)) pP.pl (h2.later b1) (hS0.later b2)).mono fun e w'' ⟨⟨b, g1, g2⟩, g3⟩ => ⟨by rw [g1, g2.2 rfl], g3⟩⟩
  have gdo : Try.prog.eqGuardType Try.prog.depth 23 = false := by kernel_rfl
  have gdn : Try.prog.eqGuardType Try.prog.depth 28 = false := by kernel_rfl
  have B0 : Hid (Bx w w.heap.size (recC k o (.slice aa an ac)) (ntL n) ([.int .i64 p.td, .slice sla sln slc, .slice sna snn snc]) (((w.alloc (.cells (recC k o (.slice aa an ac)).toArray 26)).alloc (.cells (ntL n).toArray 28)).alloc (.cells ([.int .i64 p.td, .slice sla sln slc, .slice sna snn snc] : List Value).toArray 32))) := Bx.start w _ _ _
  have O2 : Hid ((ntL ⟨n.f, false⟩).length = 6 ∧ ∀ u ∈ ntL ⟨n.f, false⟩, u.oneCell' = true) := ntL_one _
  have OU : Hid (∀ u ∈ recC ku ou (.slice ua un uc), u.oneCell' = true) := recC_one _ _ _ _ _
  show Calls Try.prog 5 #[.agg (recC k o (.slice aa an ac)).toArray, .agg (ntL n).toArray, .agg ([.int .i64 p.td, .slice sla sln slc, .slice sna snn snc] : List Value).toArray] w _
  clear hx hl hr okN okP pP hS0 ue uok ur ul ui fr fcall fok flen fpl olen rlen ok
  go_enter Try.func5, Try.ntmps5
  go_upto_region 1 with fail
  generalize (((w.alloc (.cells (recC k o (.slice aa an ac)).toArray 26)).alloc (.cells (ntL n).toArray 28)).alloc (.cells ([.int .i64 p.td, .slice sla sln slc, .slice sna snn snc] : List Value).toArray 32)) = W0 at *
  obtain ⟨X, hX⟩ : ∃ X, w.heap.size = X := ⟨_, rfl⟩
  have HX : Hid (w.heap.size = X) := hX
  rw [hX] at B0 ⊢
  clear hX
  go_wp2_with ((with_reducible refine at_loadG 23 ?_); refine step_loadG rfl 23 _ rfl X 1 rfl (opC o) _ (Bx.op B0.out) Try.underlying23 rfl (szOpC _) ?_)
  refine (EO.out _).mono ?_
  rintro e w1 ⟨a1, m1, c1, rfl, r1, b1, -⟩
  have B1 : Hid (Bx w X (recC k o (.slice aa an ac)) (ntL n) ([.int .i64 p.td, .slice sla sln slc, .slice sna snn snc]) w1) := B0.out.later b1
  have R1 : Hid (RdB w1 (.slice a1 m1 c1) (opL o)) := r1
  clear r1 b1 B0
  go_wp2_with fail
  refine (DO.out _ _ R1.out).mono ?_
  rintro e w2 ⟨rfl, b2⟩
  have B2 : Hid (Bx w X (recC k o (.slice aa an ac)) (ntL n) ([.int .i64 p.td, .slice sla sln slc, .slice sna snn snc]) w2) := B1.out.later b2
  clear b2 B1 R1 DO
  obtain ⟨E1, hE1⟩ : ∃ E, w2.heap.size = E := ⟨_, rfl⟩
  have NN : Hid (Blk E1 23 [.int .i64 0, .int .i64 0, .int .i64 0, .int .i64 0, .int .i64 0, .int .i64 0, .string ⟨#[]⟩] (w2.alloc (.cells #[.int .i64 0, .int .i64 0, .int .i64 0, .int .i64 0, .int .i64 0, .int .i64 0, .string ⟨#[]⟩] 23))) := by rw [← hE1]; exact Blk.new _ _ _
  have NB : Hid (Below w2.heap.size w2 (w2.alloc (.cells #[.int .i64 0, .int .i64 0, .int .i64 0, .int .i64 0, .int .i64 0, .int .i64 0, .string ⟨#[]⟩] 23))) := below_alloc _ _
  have HE : Hid (w2.heap.size ≤ E1) := Nat.le_of_eq hE1
  go_upto_region 2 with ((with_reducible refine at_store ?_); (try rw [hE1]); refine step_store rfl 23 _ _ rfl E1 0 23 [.int .i64 0, .int .i64 0, .int .i64 0, .int .i64 0, .int .i64 0, .int .i64 0, .string ⟨#[]⟩] (opC (usedV o)) rfl rfl NN.out (by rw [show (opC (usedV o)).length = 7 from rfl]; show 0 + 7 ≤ 7; omega) (szOpC _) (opC_one _) ?_; intro w3 nb gb; rw [store_all (by rw [show (opC (usedV o)).length = 7 from rfl]; rfl)] at nb)
  have P3 : Hid (Blk E1 23 (opC (usedV o)) w3) := nb
  have bn : Below w2.heap.size w2 w3 := below_past2 NB.out gb HE.out
  have B3 : Hid (Bx w X (recC k o (.slice aa an ac)) (ntL n) ([.int .i64 p.td, .slice sla sln slc, .slice sna snn snc]) w3) := B2.out.later bn
  clear nb gb bn NN NB HE hE1 B2 
  go_wp2_with ((with_reducible refine at_loadG 23 ?_); refine step_loadG rfl 23 _ rfl X 1 rfl (opC o) _ (Bx.op B3.out) Try.underlying23 rfl (szOpC _) ?_)
  refine (US.out _).mono ?_
  rintro e w4 ⟨rfl, b4⟩
  have B4 : Hid (Bx w X (recC k o (.slice aa an ac)) (ntL n) ([.int .i64 p.td, .slice sla sln slc, .slice sna snn snc]) w4) := B3.out.later b4
  have P4 : Hid (Blk E1 23 (opC (usedV o)) w4) := P3.out.below b4
  clear b4 B3 P3 US
  obtain ⟨E2, hE2⟩ : ∃ E, w4.heap.size = E := ⟨_, rfl⟩
  have NN : Hid (Blk E2 23 [.int .i64 0, .int .i64 0, .int .i64 0, .int .i64 0, .int .i64 0, .int .i64 0, .string ⟨#[]⟩] (w4.alloc (.cells #[.int .i64 0, .int .i64 0, .int .i64 0, .int .i64 0, .int .i64 0, .int .i64 0, .string ⟨#[]⟩] 23))) := by rw [← hE2]; exact Blk.new _ _ _
  have NB : Hid (Below w4.heap.size w4 (w4.alloc (.cells #[.int .i64 0, .int .i64 0, .int .i64 0, .int .i64 0, .int .i64 0, .int .i64 0, .string ⟨#[]⟩] 23))) := below_alloc _ _
  have HE : Hid (w4.heap.size ≤ E2) := Nat.le_of_eq hE2
  go_upto_region 3 with ((with_reducible refine at_store ?_); (try rw [hE2]); refine step_store rfl 23 _ _ rfl E2 0 23 [.int .i64 0, .int .i64 0, .int .i64 0, .int .i64 0, .int .i64 0, .int .i64 0, .string ⟨#[]⟩] (opC (usedV o)) rfl rfl NN.out (by rw [show (opC (usedV o)).length = 7 from rfl]; show 0 + 7 ≤ 7; omega) (szOpC _) (opC_one _) ?_; intro w5 nb gb; rw [store_all (by rw [show (opC (usedV o)).length = 7 from rfl]; rfl)] at nb)
  have Q5 : Hid (Blk E2 23 (opC (usedV o)) w5) := nb
  have bn : Below w4.heap.size w4 w5 := below_past2 NB.out gb HE.out
  have B5 : Hid (Bx w X (recC k o (.slice aa an ac)) (ntL n) ([.int .i64 p.td, .slice sla sln slc, .slice sna snn snc]) w5) := B4.out.later bn
  have P5 : Hid (Blk E1 23 (opC (usedV o)) w5) := P4.out.below bn
  clear nb gb bn NN NB HE hE2 B4 P4
  rename_i K1 ka1 K2 ka2
  have JN0 : Hid (∀ (d0 d1 d2 d7 d8 d9 d10 d16 d17 d18 d19 d20 d21 d22 d23 d24 d25 d26 d27 d28 d29 d30 d31 d32 d33 d34 d35 d36 d37 d38 d39 d40 d41 d42 d43 d44 d45 d46 d47 : Value) (W : World), Bx w X (recC k o (.slice aa an ac)) (ntL n) ([.int .i64 p.td, .slice sla sln slc, .slice sna snn snc]) W → K1 { tmps := #[d0, d1, d2, .pointer (some ⟨X, 0, none⟩), .pointer (some ⟨X + 1, 0, none⟩), .pointer (some ⟨X + 1 + 1, 0, none⟩), .bool false, d7, d8, d9, d10, undef, undef, undef, undef, undef, d16, d17, d18, d19, d20, d21, d22, d23, d24, d25, d26, d27, d28, d29, d30, d31, d32, d33, d34, d35, d36, d37, d38, d39, d40, d41, d42, d43, d44, d45, d46, d47, undef, undef, undef, undef, undef, undef, undef, undef, undef, undef, undef, undef, undef, undef, undef, undef, undef, undef, undef, undef, undef, undef, undef, undef, undef, undef, undef, undef, undef, undef, undef, undef, undef, undef, undef, undef, undef, undef, undef, undef, undef, undef, undef, undef, undef, undef, undef, undef, undef, undef, undef, undef, undef, undef, undef, undef, undef, undef, undef, undef, undef, undef, undef, undef, undef, undef, undef, undef, undef, undef, undef, undef, undef, undef, undef, undef], defers := [] } W) := by
    clear ka2 B5 P5 Q5
    intro d0 d1 d2 d7 d8 d9 d10 d16 d17 d18 d19 d20 d21 d22 d23 d24 d25 d26 d27 d28 d29 d30 d31 d32 d33 d34 d35 d36 d37 d38 d39 d40 d41 d42 d43 d44 d45 d46 d47 WX0 bx0
    have BX0 : Hid (Bx w X (recC k o (.slice aa an ac)) (ntL n) ([.int .i64 p.td, .slice sla sln slc, .slice sna snn snc]) WX0) := bx0
    clear bx0
    refine ka1 _ _ ?_
    clear ka1
    clear EO EQO
    go_wp2_with ((with_reducible refine at_loadG 26 ?_); refine step_loadG rfl 26 _ rfl X 0 rfl (recC k o (.slice aa an ac)) _ (Blk.all BX0.out.r) Try.underlying26 rfl (szRec rfl) ?_)
    refine (TW.out _ BX0.out.bb).mono ?_
    rintro e v1 ⟨ta, tn, tc, rfl, r1, b1⟩
    have B1 : Hid (Bx w X (recC k o (.slice aa an ac)) (ntL n) ([.int .i64 p.td, .slice sla sln slc, .slice sna snn snc]) v1) := BX0.out.later b1
    have R1 : Hid (RdI v1 (.slice ta tn tc) xs) := r1
    clear r1 b1 BX0
    go_wp2_with fail
    refine (ER.out _ _ _ _ R1.out).mono ?_
    rintro e v2 ⟨a2, m2, c2, rfl, r2, b2, -⟩
    have B2 : Hid (Bx w X (recC k o (.slice aa an ac)) (ntL n) ([.int .i64 p.td, .slice sla sln slc, .slice sna snn snc]) v2) := B1.out.later b2
    have R2 : Hid (RdB v2 (.slice a2 m2 c2) (recL k o xs)) := r2
    clear r2 b2 B1 R1
    go_wp2_with fail
    refine (DR.out _ _ R2.out).mono ?_
    rintro e v3 ⟨C3, rfl, lc3, oc3, b3, sr3⟩
    have B3 : Hid (Bx w X (recC k o (.slice aa an ac)) (ntL n) ([.int .i64 p.td, .slice sla sln slc, .slice sna snn snc]) v3) := B2.out.later b3
    have LC3 : Hid (C3.length = 9) := lc3
    have OC3 : Hid (∀ u ∈ C3, u.oneCell' = true) := oc3
    have SR3 : Hid (∀ W', Below v3.heap.size v3 W' → Below w.heap.size w W' → Calls Try.prog 11 #[.agg C3.toArray, .agg (recC ku ou (.slice ua un uc)).toArray] W' fun e w'' => e = .returned (.bool true) ∧ Below W'.heap.size W' w'') := sr3
    have F3 : Hid (Below v3.heap.size v3 v3) := Below.refl _ _
    clear lc3 oc3 b3 sr3 B2 R2 DR
    obtain ⟨E3, hE3⟩ : ∃ E, v3.heap.size = E := ⟨_, rfl⟩
    have NN : Hid (Blk E3 26 [.int .i64 0, .int .i64 0, .int .i64 0, .int .i64 0, .int .i64 0, .int .i64 0, .int .i64 0, .string ⟨#[]⟩, .slice none 0 0] (v3.alloc (.cells #[.int .i64 0, .int .i64 0, .int .i64 0, .int .i64 0, .int .i64 0, .int .i64 0, .int .i64 0, .string ⟨#[]⟩, .slice none 0 0] 26))) := by rw [← hE3]; exact Blk.new _ _ _
    have NB : Hid (Below v3.heap.size v3 (v3.alloc (.cells #[.int .i64 0, .int .i64 0, .int .i64 0, .int .i64 0, .int .i64 0, .int .i64 0, .int .i64 0, .string ⟨#[]⟩, .slice none 0 0] 26))) := below_alloc _ _
    have HE : Hid (v3.heap.size ≤ E3) := Nat.le_of_eq hE3
    go_upto_region 6 with ((with_reducible refine at_store ?_); (try rw [hE3]); refine step_store rfl 26 _ _ rfl E3 0 26 [.int .i64 0, .int .i64 0, .int .i64 0, .int .i64 0, .int .i64 0, .int .i64 0, .int .i64 0, .string ⟨#[]⟩, .slice none 0 0] (C3) rfl rfl NN.out (by rw [LC3.out]; show 0 + 9 ≤ 9; omega) (szRec LC3.out) OC3.out ?_; intro v4 nb gb; rw [store_all (by rw [LC3.out]; rfl)] at nb)
    have P4 : Hid (Blk E3 26 (C3) v4) := nb
    have bn : Below v3.heap.size v3 v4 := below_past2 NB.out gb HE.out
    have B4 : Hid (Bx w X (recC k o (.slice aa an ac)) (ntL n) ([.int .i64 p.td, .slice sla sln slc, .slice sna snn snc]) v4) := B3.out.later bn
    have F4 : Hid (Below v3.heap.size v3 v4) := below_trans F3.out bn
    clear nb gb bn NN NB HE hE3 B3 F3
    go_wp2_with ((with_reducible refine at_loadG 26 ?_); refine step_loadG rfl 26 _ rfl X 0 rfl (recC k o (.slice aa an ac)) _ (Blk.all B4.out.r) Try.underlying26 rfl (szRec rfl) ?_)
    refine (UR.out _).mono ?_
    rintro e v5 ⟨rfl, b5⟩
    have B5 : Hid (Bx w X (recC k o (.slice aa an ac)) (ntL n) ([.int .i64 p.td, .slice sla sln slc, .slice sna snn snc]) v5) := B4.out.later b5
    have P5 : Hid (Blk E3 26 C3 v5) := P4.out.below b5
    have F5 : Hid (Below v3.heap.size v3 v5) := below_trans F4.out b5
    clear b5 B4 P4 F4 UR
    obtain ⟨E4, hE4⟩ : ∃ E, v5.heap.size = E := ⟨_, rfl⟩
    have NN : Hid (Blk E4 26 [.int .i64 0, .int .i64 0, .int .i64 0, .int .i64 0, .int .i64 0, .int .i64 0, .int .i64 0, .string ⟨#[]⟩, .slice none 0 0] (v5.alloc (.cells #[.int .i64 0, .int .i64 0, .int .i64 0, .int .i64 0, .int .i64 0, .int .i64 0, .int .i64 0, .string ⟨#[]⟩, .slice none 0 0] 26))) := by rw [← hE4]; exact Blk.new _ _ _
    have NB : Hid (Below v5.heap.size v5 (v5.alloc (.cells #[.int .i64 0, .int .i64 0, .int .i64 0, .int .i64 0, .int .i64 0, .int .i64 0, .int .i64 0, .string ⟨#[]⟩, .slice none 0 0] 26))) := below_alloc _ _
    have HE : Hid (v5.heap.size ≤ E4) := Nat.le_of_eq hE4
    go_upto_region 7 with ((with_reducible refine at_store ?_); (try rw [hE4]); refine step_store rfl 26 _ _ rfl E4 0 26 [.int .i64 0, .int .i64 0, .int .i64 0, .int .i64 0, .int .i64 0, .int .i64 0, .int .i64 0, .string ⟨#[]⟩, .slice none 0 0] (recC ku ou (.slice ua un uc)) rfl rfl NN.out (by rw [show (recC ku ou (.slice ua un uc)).length = 9 from rfl]; show 0 + 9 ≤ 9; omega) (szRec rfl) OU.out ?_; intro v6 nb gb; rw [store_all (by rw [show (recC ku ou (.slice ua un uc)).length = 9 from rfl]; rfl)] at nb)
    have Q6 : Hid (Blk E4 26 (recC ku ou (.slice ua un uc)) v6) := nb
    have bn : Below v5.heap.size v5 v6 := below_past2 NB.out gb HE.out
    have B6 : Hid (Bx w X (recC k o (.slice aa an ac)) (ntL n) ([.int .i64 p.td, .slice sla sln slc, .slice sna snn snc]) v6) := B5.out.later bn
    have P6 : Hid (Blk E3 26 (C3) v6) := P5.out.below bn
    have F6 : Hid (Below v3.heap.size v3 v6) := below_trans F5.out bn
    clear nb gb bn NN NB HE hE4 B5 P5 F5
    rename_i K1 ka1 K2 ka2
    have JN1 : Hid (∀ (d0 d1 d2 d7 d8 d9 d10 d11 d12 d16 d17 d18 d19 d20 d21 d22 d23 d24 d25 d26 d27 d28 d29 d30 d31 d32 d33 d34 d35 d36 d37 d38 d39 d40 d41 d42 d43 d44 d45 d46 d47 d48 d49 d50 d51 d52 d53 d54 d55 d56 d57 d58 d59 d60 d61 d62 d63 d64 d65 d66 d67 d68 d69 d70 d71 d72 d73 d74 d75 d76 d77 d78 d79 : Value) (W : World), Bx w X (recC k o (.slice aa an ac)) (ntL n) ([.int .i64 p.td, .slice sla sln slc, .slice sna snn snc]) W → K1 { tmps := #[d0, d1, d2, .pointer (some ⟨X, 0, none⟩), .pointer (some ⟨X + 1, 0, none⟩), .pointer (some ⟨X + 1 + 1, 0, none⟩), .bool false, d7, d8, d9, d10, d11, d12, undef, undef, undef, d16, d17, d18, d19, d20, d21, d22, d23, d24, d25, d26, d27, d28, d29, d30, d31, d32, d33, d34, d35, d36, d37, d38, d39, d40, d41, d42, d43, d44, d45, d46, d47, d48, d49, d50, d51, d52, d53, d54, d55, d56, d57, d58, d59, d60, d61, d62, d63, d64, d65, d66, d67, d68, d69, d70, d71, d72, d73, d74, d75, d76, d77, d78, d79, undef, undef, undef, undef, undef, undef, undef, undef, undef, undef, undef, undef, undef, undef, undef, undef, undef, undef, undef, undef, undef, undef, undef, undef, undef, undef, undef, undef, undef, undef, undef, undef, undef, undef, undef, undef, undef, undef, undef, undef, undef, undef, undef, undef], defers := [] } W) := by
      clear ka2 B6 P6 Q6 F6 LC3 OC3 SR3
      intro d0 d1 d2 d7 d8 d9 d10 d11 d12 d16 d17 d18 d19 d20 d21 d22 d23 d24 d25 d26 d27 d28 d29 d30 d31 d32 d33 d34 d35 d36 d37 d38 d39 d40 d41 d42 d43 d44 d45 d46 d47 d48 d49 d50 d51 d52 d53 d54 d55 d56 d57 d58 d59 d60 d61 d62 d63 d64 d65 d66 d67 d68 d69 d70 d71 d72 d73 d74 d75 d76 d77 d78 d79 WX1 bx1
      have BX1 : Hid (Bx w X (recC k o (.slice aa an ac)) (ntL n) ([.int .i64 p.td, .slice sla sln slc, .slice sna snn snc]) WX1) := bx1
      clear bx1
      refine ka1 _ _ ?_
      clear ka1
      clear TW ER
      go_wp2_with ((with_reducible refine at_loadG 28 ?_); refine step_loadG rfl 28 _ rfl (X + 1) 0 rfl (ntL n) _ (Blk.all BX1.out.n) Try.underlying28 rfl (sizN _) ?_)
      refine (EN.out _).mono ?_
      rintro e u1 ⟨n1, rfl, r1, b1⟩
      have B1 : Hid (Bx w X (recC k o (.slice aa an ac)) (ntL n) ([.int .i64 p.td, .slice sla sln slc, .slice sna snn snc]) u1) := BX1.out.later b1
      have R1 : Hid (RdB u1 n1 (ntB n)) := r1
      clear r1 b1 BX1 EN
      go_wp2_with fail
      refine (DN.out _ _ R1.out).mono ?_
      rintro e u2 ⟨rfl, b2⟩
      have B2 : Hid (Bx w X (recC k o (.slice aa an ac)) (ntL n) ([.int .i64 p.td, .slice sla sln slc, .slice sna snn snc]) u2) := B1.out.later b2
      have LE2 : Hid (X + 1 + 1 < u2.heap.size) := B2.out.s.lt
      clear b2 B1 R1 DN
      obtain ⟨E5, hE5⟩ : ∃ E, u2.heap.size = E := ⟨_, rfl⟩
      have NN : Hid (Blk E5 28 [.int .i64 0, .int .i64 0, .int .i64 0, .int .i64 0, .int .i64 0, .bool false] (u2.alloc (.cells #[.int .i64 0, .int .i64 0, .int .i64 0, .int .i64 0, .int .i64 0, .bool false] 28))) := by rw [← hE5]; exact Blk.new _ _ _
      have NB : Hid (Below u2.heap.size u2 (u2.alloc (.cells #[.int .i64 0, .int .i64 0, .int .i64 0, .int .i64 0, .int .i64 0, .bool false] 28))) := below_alloc _ _
      have HE : Hid (u2.heap.size ≤ E5) := Nat.le_of_eq hE5
      go_upto_region 10 with ((with_reducible refine at_store ?_); (try rw [hE5]); refine step_store rfl 28 _ _ rfl E5 0 28 [.int .i64 0, .int .i64 0, .int .i64 0, .int .i64 0, .int .i64 0, .bool false] (ntL ⟨n.f, false⟩) rfl rfl NN.out (by rw [O2.out.1]; show 0 + 6 ≤ 6; omega) (sizN _) O2.out.2 ?_; intro u3 nb gb; rw [store_all (by rw [O2.out.1]; rfl)] at nb)
      have P3 : Hid (Blk E5 28 (ntL ⟨n.f, false⟩) u3) := nb
      have bn : Below u2.heap.size u2 u3 := below_past2 NB.out gb HE.out
      have B3 : Hid (Bx w X (recC k o (.slice aa an ac)) (ntL n) ([.int .i64 p.td, .slice sla sln slc, .slice sna snn snc]) u3) := B2.out.later bn
      have L5 : Hid (X + 1 + 1 < E5) := Nat.lt_of_lt_of_le LE2.out HE.out
      clear nb gb bn NN NB HE hE5 B2 
      have e5 : u3.cell? ⟨X + 1, 5, none⟩ = some (.bool n.ak) := B3.out.n.cell 5 _ rfl
      have z5 : u3.frozen? ⟨X + 1, 5, none⟩ = false := B3.out.n.fz 5
      have lt5 : X + 1 < u3.heap.size := B3.out.n.lt
      go_upto_region 11 with fail
      have B4 : Hid (Bx w X (recC k o (.slice aa an ac)) (ntL ⟨n.f, false⟩) ([.int .i64 p.td, .slice sla sln slc, .slice sna snn snc]) (u3.setCell ⟨X + 1, 5, none⟩ (.bool false))) := B3.out.acked HX.out
      have P4 : Hid (Blk E5 28 (ntL ⟨n.f, false⟩) (u3.setCell ⟨X + 1, 5, none⟩ (.bool false))) := P3.out.grown (setCell_grown _ _ _ _) (by have := L5.out; omega)
      clear e5 z5 lt5 B3 P3 L5 LE2
      generalize u3.setCell ⟨X + 1, 5, none⟩ (.bool false) = u4 at *
      go_upto_region 13 with (first
        | ((with_reducible refine at_loadG 28 ?_); refine step_loadG rfl 28 _ rfl E5 0 rfl (ntL ⟨n.f, false⟩) _ (Blk.all P4.out) Try.underlying28 rfl (sizN _) ?_)
        | ((with_reducible refine at_loadG 28 ?_); refine step_loadG rfl 28 _ rfl (X + 1) 0 rfl (ntL ⟨n.f, false⟩) _ (Blk.all B4.out.n) Try.underlying28 rfl (sizN _) ?_)
        | ((with_reducible refine at_bin .neq 28 ?_); refine step_neq (by rfl) 28 28 _ _ rfl (ntL ⟨n.f, false⟩) (ntL ⟨n.f, false⟩) rfl rfl gdn EQN.out false rfl ?_))
      clear P4 EQN
      go_wp2_with ((with_reducible refine at_loadG 32 ?_); refine step_loadG rfl 32 _ rfl (X + 1 + 1) 0 rfl ([.int .i64 p.td, .slice sla sln slc, .slice sna snn snc]) _ (Blk.all B4.out.s) Try.underlying32 rfl (sz3 _ _ _) ?_)
      refine (FI.out _ B4.out.bb).mono ?_
      rintro e u5 ⟨rfl, b5⟩
      have B5 : Hid (Bx w X (recC k o (.slice aa an ac)) (ntL ⟨n.f, false⟩) ([.int .i64 p.td, .slice sla sln slc, .slice sna snn snc]) u5) := B4.out.later b5
      clear b5 B4
      go_wp2_with fail
      refine (TWL.out _ B5.out.bb).mono ?_
      rintro e u6 ⟨C6, rfl, b6, el⟩
      have B6 : Hid (Bx w X (recC k o (.slice aa an ac)) (ntL ⟨n.f, false⟩) ([.int .i64 p.td, .slice sla sln slc, .slice sna snn snc]) u6) := B5.out.later b6
      have EL : Hid (Calls Try.prog 23 #[.agg C6.toArray] u6 fun e w'' => ∃ v, e = .returned v ∧ RdB w'' v (lnB (fstL p)) ∧ Below u6.heap.size u6 w'') := el
      clear b6 el B5 TWL
      go_wp2_with fail
      refine EL.out.mono ?_
      rintro e u7 ⟨v7, rfl, r7, b7⟩
      have B7 : Hid (Bx w X (recC k o (.slice aa an ac)) (ntL ⟨n.f, false⟩) ([.int .i64 p.td, .slice sla sln slc, .slice sna snn snc]) u7) := B6.out.later b7
      have R7 : Hid (RdB u7 v7 (lnB (fstL p))) := r7
      clear b7 r7 B6 EL
      go_wp2_with fail
      refine (DL.out _ _ R7.out).mono ?_
      rintro e u8 ⟨C8, rfl, lc8, oc8, b8, sl8⟩
      have B8 : Hid (Bx w X (recC k o (.slice aa an ac)) (ntL ⟨n.f, false⟩) ([.int .i64 p.td, .slice sla sln slc, .slice sna snn snc]) u8) := B7.out.later b8
      have LC8 : Hid (C8.length = 46) := lc8
      have OC8 : Hid (∀ u ∈ C8, u.oneCell' = true) := oc8
      have SL8 : Hid (∀ W', Below u8.heap.size u8 W' → Below w.heap.size w W' → Calls Try.prog 28 #[.agg C8.toArray, .agg (lnL (fstL p) (.slice fa fn fc)).toArray] W' fun e w'' => e = .returned (.bool true) ∧ Below W'.heap.size W' w'') := sl8
      have F8 : Hid (Below u8.heap.size u8 u8) := Below.refl _ _
      clear lc8 oc8 b8 sl8 B7 R7 DL
      obtain ⟨E6, hE6⟩ : ∃ E, u8.heap.size = E := ⟨_, rfl⟩
      have NN : Hid (Blk E6 65 zLn (u8.alloc (.cells zLn.toArray 65))) := by rw [← hE6]; exact Blk.new _ _ _
      have NB : Hid (Below u8.heap.size u8 (u8.alloc (.cells zLn.toArray 65))) := below_alloc _ _
      have HE : Hid (u8.heap.size ≤ E6) := Nat.le_of_eq hE6
      go_upto_region 14 with ((with_reducible refine at_store ?_); (try rw [hE6]); refine step_store rfl 65 _ _ rfl E6 0 65 zLn (C8) rfl rfl NN.out (by rw [LC8.out]; show 0 + 46 ≤ 46; omega) (szLn LC8.out) OC8.out ?_; intro u9 nb gb; rw [store_all (by rw [LC8.out]; rfl)] at nb)
      have P9 : Hid (Blk E6 65 (C8) u9) := nb
      have bn : Below u8.heap.size u8 u9 := below_past2 NB.out gb HE.out
      have B9 : Hid (Bx w X (recC k o (.slice aa an ac)) (ntL ⟨n.f, false⟩) ([.int .i64 p.td, .slice sla sln slc, .slice sna snn snc]) u9) := B8.out.later bn
      have F9 : Hid (Below u8.heap.size u8 u9) := below_trans F8.out bn
      clear nb gb bn NN NB HE hE6 B8 F8
      have huL := Try.underlying65
      have huS := Try.underlying32
      refine wp_region_held_drew (S := fun w' => Bx w X (recC k o (.slice aa an ac)) (ntL ⟨n.f, false⟩) ([.int .i64 p.td, .slice sla sln slc, .slice sna snn snc]) w' ∧ Blk E6 65 C8 w' ∧ Below u8.heap.size u8 w') (by kernel_rfl) ⟨B9.out.drew, P9.out.below (below_drewN (Below.refl _ _) 1), below_trans F9.out (below_drewN (Below.refl _ _) 1)⟩ (fun hH => ?_)
      clear B9 P9 F9
      refine wpAnyH_take (i := 0) (oi := { dst := some 102, op := Op.move (Operand.tmp 8), type := 4, pos := "outright.go:138", after := #[], guard := none }) (v := .bool true) rfl (by kernel_rfl) (by kernel_rfl) (by kernel_rfl) (fun _ _ _ h => h) (Or.inl ⟨by rfl, fun w' h => by go_simp⟩) hH ?_
      try simp only [Act.put, List.setIfInBounds_toArray, List.set_cons_zero, List.set_cons_succ]
      refine wpAnyH_take (i := 1) (oi := { dst := some 103, op := Op.unOp UnOp.not 4 (Operand.tmp 102), type := 4, pos := "outright.go:138", after := #[{ on := 0, ground := Ground.data }], guard := none }) (v := .bool false) rfl (by kernel_rfl) (by kernel_rfl) (by kernel_rfl) (fun _ _ _ h => h) (Or.inl ⟨by rfl, fun w' h => by go_simp⟩) hH ?_
      try simp only [Act.put, List.setIfInBounds_toArray, List.set_cons_zero, List.set_cons_succ]
      refine wpAnyH_take (i := 2) (oi := { dst := some 104, op := Op.move (Operand.tmp 103), type := 4, pos := "outright.go:138", after := #[{ on := 1, ground := Ground.data }], guard := none }) (v := .bool false) rfl (by kernel_rfl) (by kernel_rfl) (by kernel_rfl) (fun _ _ _ h => h) (Or.inl ⟨by rfl, fun w' h => by go_simp⟩) hH ?_
      try simp only [Act.put, List.setIfInBounds_toArray, List.set_cons_zero, List.set_cons_succ]
      refine wpAnyH_take (i := 3) (oi := { dst := some 105, op := Op.load 65 (Operand.tmp 14), type := 65, pos := "outright.go:138", after := #[{ on := 2, ground := Ground.guard }], guard := some (2, false) }) (v := .agg (C8).toArray) rfl (by kernel_rfl) (by kernel_rfl) (by kernel_rfl) (fun _ _ _ h => h) (yieldsIf_load_mid (by rfl) _ _ rfl E6 0 rfl (C8) _ (fun w' h => Blk.all h.2.1) huL rfl (szLn LC8.out)) hH ?_
      try simp only [Act.put, List.setIfInBounds_toArray, List.set_cons_zero, List.set_cons_succ]
      refine wpAnyH_take (i := 4) (oi := { dst := some 106, op := Op.load 32 (Operand.tmp 5), type := 32, pos := "outright.go:138", after := #[{ on := 2, ground := Ground.guard }], guard := some (2, false) }) (v := .agg ([.int .i64 p.td, .slice sla sln slc, .slice sna snn snc]).toArray) rfl (by kernel_rfl) (by kernel_rfl) (by kernel_rfl) (fun _ _ _ h => h) (yieldsIf_load_mid (by rfl) _ _ rfl (X + 1 + 1) 0 rfl ([.int .i64 p.td, .slice sla sln slc, .slice sna snn snc]) _ (fun w' h => Blk.all h.1.s) huS rfl (sz3 _ _ _)) hH ?_
      try simp only [Act.put, List.setIfInBounds_toArray, List.set_cons_zero, List.set_cons_succ]
      refine wpAnyH_ready (rs := [5]) (by kernel_rfl) (by simp) ?_
      refine AllReadyH.cons (o := { dst := some 107, op := Op.call { callee := Callee.value (Operand.func 27), args := #[Operand.tmp 106], argTypes := #[32] }, type := 65, pos := "outright.go:138", after := #[{ on := 4, ground := Ground.data }, { on := 2, ground := Ground.chain }, { on := 2, ground := Ground.guard }], guard := some (2, false) }) rfl (fun K hK => ?_) AllReadyH.nil
      go_simp
      refine (FI.out _ hH.1.bb).mono ?_
      rintro e u10 ⟨rfl, b10⟩
      refine hK.out _ _ ⟨hH.1.later b10, hH.2.1.below b10, below_trans hH.2.2 b10⟩ (fun hH => ?_)
      try simp only [Act.put]
      clear hK b10
      refine wpAnyH_ready (rs := [6]) (by kernel_rfl) (by simp) ?_
      refine AllReadyH.cons (o := { dst := some 108, op := Op.call { callee := Callee.value (Operand.func 28), args := #[Operand.tmp 105, Operand.tmp 107], argTypes := #[65, 65] }, type := 4, pos := "outright.go:138", after := #[{ on := 3, ground := Ground.data }, { on := 5, ground := Ground.data }, { on := 5, ground := Ground.chain }, { on := 2, ground := Ground.guard }], guard := some (2, false) }) rfl (fun K hK => ?_) AllReadyH.nil
      go_simp
      refine (SL8.out _ hH.2.2 hH.1.bb).mono ?_
      rintro e u11 ⟨rfl, b11⟩
      have B11 : Hid (Bx w X (recC k o (.slice aa an ac)) (ntL ⟨n.f, false⟩) ([.int .i64 p.td, .slice sla sln slc, .slice sna snn snc]) u11) := hH.1.later b11
      refine hK.out _ _ ⟨hH.1.later b11, hH.2.1.below b11, below_trans hH.2.2 b11⟩ (fun hH => ?_)
      try simp only [Act.put]
      clear hK b11
      refine wpAnyH_take (i := 7) (oi := { dst := some 109, op := Op.unOp UnOp.not 4 (Operand.tmp 108), type := 4, pos := "outright.go:138", after := #[{ on := 6, ground := Ground.data }, { on := 2, ground := Ground.guard }], guard := some (2, false) }) (v := .bool false) rfl (by kernel_rfl) (by kernel_rfl) (by kernel_rfl) (fun _ _ _ h => h) (Or.inl ⟨by rfl, fun w' h => by go_simp⟩) hH ?_
      try simp only [Act.put, List.setIfInBounds_toArray, List.set_cons_zero, List.set_cons_succ]
      refine wpAnyH_take (i := 8) (oi := { dst := some 110, op := Op.pick (Operand.tmp 104) (Operand.const (Value.bool true)) (Operand.tmp 109), type := 4, pos := "outright.go:138", after := #[{ on := 2, ground := Ground.data }, { on := 7, ground := Ground.data }], guard := none }) (v := .bool false) rfl (by kernel_rfl) (by kernel_rfl) (by kernel_rfl) (fun _ _ _ h => h) (Or.inl ⟨by rfl, fun w' h => by go_simp⟩) hH ?_
      try simp only [Act.put, List.setIfInBounds_toArray, List.set_cons_zero, List.set_cons_succ]
      refine wpAnyH_done (by kernel_rfl) ?_ _
      clear hH SL8 LC8 OC8 huL
      go_upto_region 16 with fail
      go_wp2_with ((with_reducible refine at_loadG 32 ?_); refine step_loadG rfl 32 _ rfl (X + 1 + 1) 0 rfl ([.int .i64 p.td, .slice sla sln slc, .slice sna snn snc]) _ (Blk.all B11.out.s) Try.underlying32 rfl (sz3 _ _ _) ?_)
      refine (TWS.out _ B11.out.bb).mono ?_
      rintro e t1 ⟨C1, rfl, b1, el⟩
      have B1 : Hid (Bx w X (recC k o (.slice aa an ac)) (ntL ⟨n.f, false⟩) ([.int .i64 p.td, .slice sla sln slc, .slice sna snn snc]) t1) := B11.out.later b1
      have EL : Hid (Calls Try.prog 13 #[.agg C1.toArray] t1 fun e w'' => ∃ v, e = .returned v ∧ RdB w'' v (poB p) ∧ Below t1.heap.size t1 w'') := el
      clear b1 el B11 TWS
      go_wp2_with fail
      refine EL.out.mono ?_
      rintro e t2 ⟨v2, rfl, r2, b2⟩
      have B2 : Hid (Bx w X (recC k o (.slice aa an ac)) (ntL ⟨n.f, false⟩) ([.int .i64 p.td, .slice sla sln slc, .slice sna snn snc]) t2) := B1.out.later b2
      have R2 : Hid (RdB t2 v2 (poB p)) := r2
      clear b2 r2 B1 EL
      go_wp2_with fail
      refine (DS.out _ _ R2.out).mono ?_
      rintro e t3 ⟨C3, rfl, lc3, oc3, b3, ss3⟩
      have B3 : Hid (Bx w X (recC k o (.slice aa an ac)) (ntL ⟨n.f, false⟩) ([.int .i64 p.td, .slice sla sln slc, .slice sna snn snc]) t3) := B2.out.later b3
      have LC3 : Hid (C3.length = 3) := lc3
      have OC3 : Hid (∀ u ∈ C3, u.oneCell' = true) := oc3
      have SS3 : Hid (∀ W', Below t3.heap.size t3 W' → Below w.heap.size w W' → Calls Try.prog 15 #[.agg C3.toArray, .agg #[.int .i64 p.td, .slice sla sln slc, .slice sna snn snc]] W' fun e w'' => e = .returned (.bool true) ∧ Below W'.heap.size W' w'') := ss3
      have F3 : Hid (Below t3.heap.size t3 t3) := Below.refl _ _
      clear lc3 oc3 b3 ss3 B2 R2 DS
      obtain ⟨E7, hE7⟩ : ∃ E, t3.heap.size = E := ⟨_, rfl⟩
      have NN : Hid (Blk E7 32 [.int .i64 0, .slice none 0 0, .slice none 0 0] (t3.alloc (.cells #[.int .i64 0, .slice none 0 0, .slice none 0 0] 32))) := by rw [← hE7]; exact Blk.new _ _ _
      have NB : Hid (Below t3.heap.size t3 (t3.alloc (.cells #[.int .i64 0, .slice none 0 0, .slice none 0 0] 32))) := below_alloc _ _
      have HE : Hid (t3.heap.size ≤ E7) := Nat.le_of_eq hE7
      go_upto_region 17 with ((with_reducible refine at_store ?_); (try rw [hE7]); refine step_store rfl 32 _ _ rfl E7 0 32 [.int .i64 0, .slice none 0 0, .slice none 0 0] (C3) rfl rfl NN.out (by rw [LC3.out]; show 0 + 3 ≤ 3; omega) (szdPo LC3.out) OC3.out ?_; intro t4 nb gb; rw [store_all (by rw [LC3.out]; rfl)] at nb)
      have P4 : Hid (Blk E7 32 (C3) t4) := nb
      have bn : Below t3.heap.size t3 t4 := below_past2 NB.out gb HE.out
      have B4 : Hid (Bx w X (recC k o (.slice aa an ac)) (ntL ⟨n.f, false⟩) ([.int .i64 p.td, .slice sla sln slc, .slice sna snn snc]) t4) := B3.out.later bn
      have F4 : Hid (Below t3.heap.size t3 t4) := below_trans F3.out bn
      clear nb gb bn NN NB HE hE7 B3 F3
      go_wp2_with (first
        | ((with_reducible refine at_loadG 32 ?_); refine step_loadG rfl 32 _ rfl E7 0 rfl (C3) _ (Blk.all P4.out) Try.underlying32 rfl (szdPo LC3.out) ?_)
        | ((with_reducible refine at_loadG 32 ?_); refine step_loadG rfl 32 _ rfl (X + 1 + 1) 0 rfl ([.int .i64 p.td, .slice sla sln slc, .slice sna snn snc]) _ (Blk.all B4.out.s) Try.underlying32 rfl (sz3 _ _ _) ?_))
      refine (SS3.out _ F4.out B4.out.bb).mono ?_
      rintro e t5 ⟨rfl, b5⟩
      have B5 : Hid (Below w.heap.size w t5) := below_trans B4.out.bb b5
      clear b5 B4 P4 F4 SS3
      go_wp2_with fail
      go_ret
      exact ⟨rfl, B5.out⟩
    clear ka1
    generalize recOk k o = rk at *
    cases rk with
    | true =>
      go_wp2_with (first
        | ((with_reducible refine at_loadG 26 ?_); refine step_loadG rfl 26 _ rfl E3 0 rfl (C3) _ (Blk.all P6.out) Try.underlying26 rfl (szRec LC3.out) ?_)
        | ((with_reducible refine at_loadG 26 ?_); refine step_loadG rfl 26 _ rfl E4 0 rfl (recC ku ou (.slice ua un uc)) _ (Blk.all Q6.out) Try.underlying26 rfl (szRec rfl) ?_))
      refine (SR3.out _ F6.out B6.out.bb).mono ?_
      rintro e v7 ⟨rfl, b7⟩
      have B7 : Hid (Bx w X (recC k o (.slice aa an ac)) (ntL n) ([.int .i64 p.td, .slice sla sln slc, .slice sna snn snc]) v7) := B6.out.later b7
      clear b7 B6 P6 Q6 F6
      go_wp2_with fail
      exact JN1.out _ _ _ _ _ _ _ _ _ _ _ _ _ _ _ _ _ _ _ _ _ _ _ _ _ _ _ _ _ _ _ _ _ _ _ _ _ _ _ _ _ _ _ _ _ _ _ _ _ _ _ _ _ _ _ _ _ _ _ _ _ _ _ _ _ _ _ _ _ _ _ _ _ _ B7.out
    | false =>
      go_wp2_with (first
        | ((with_reducible refine at_loadG 26 ?_); refine step_loadG rfl 26 _ rfl E3 0 rfl (C3) _ (Blk.all P6.out) Try.underlying26 rfl (szRec LC3.out) ?_)
        | ((with_reducible refine at_loadG 26 ?_); refine step_loadG rfl 26 _ rfl E4 0 rfl (recC ku ou (.slice ua un uc)) _ (Blk.all Q6.out) Try.underlying26 rfl (szRec rfl) ?_))
      refine (SR3.out _ F6.out B6.out.bb).mono ?_
      rintro e v7 ⟨rfl, b7⟩
      have B7 : Hid (Bx w X (recC k o (.slice aa an ac)) (ntL n) ([.int .i64 p.td, .slice sla sln slc, .slice sna snn snc]) v7) := B6.out.later b7
      clear b7 B6 P6 Q6 F6
      go_wp2_with ((with_reducible refine at_loadG 26 ?_); refine step_loadG rfl 26 _ rfl X 0 rfl (recC k o (.slice aa an ac)) _ (Blk.all B7.out.r) Try.underlying26 rfl (szRec rfl) ?_)
      refine (TW.out _ B7.out.bb).mono ?_
      rintro e v8 ⟨ta, tn, tc, rfl, r8, b8⟩
      have B8 : Hid (Bx w X (recC k o (.slice aa an ac)) (ntL n) ([.int .i64 p.td, .slice sla sln slc, .slice sna snn snc]) v8) := B7.out.later b8
      have R8 : Hid (RdI v8 (.slice ta tn tc) xs) := r8
      clear r8 b8 B7
      go_wp2_with fail
      refine (ER.out _ _ _ _ R8.out).mono ?_
      rintro e v9 ⟨a9, m9, c9, rfl, r9, b9, z9⟩
      obtain rfl := z9 (by trivial)
      have B9 : Hid (Bx w X (recC k o (.slice aa an ac)) (ntL n) ([.int .i64 p.td, .slice sla sln slc, .slice sna snn snc]) v9) := B8.out.later b9
      clear r9 b9 z9 B8 R8
      go_wp2_with fail
      exact JN1.out _ _ _ _ _ _ _ _ _ _ _ _ _ _ _ _ _ _ _ _ _ _ _ _ _ _ _ _ _ _ _ _ _ _ _ _ _ _ _ _ _ _ _ _ _ _ _ _ _ _ _ _ _ _ _ _ _ _ _ _ _ _ _ _ _ _ _ _ _ _ _ _ _ _ B9.out
  clear ka1
  generalize (fmask o.kind).isSome = is at *
  cases is with
  | true =>
    go_wp2_with (first
      | ((with_reducible refine at_loadG 23 ?_); refine step_loadG rfl 23 _ rfl E1 0 rfl (opC (usedV o)) _ (Blk.all P5.out) Try.underlying23 rfl (szOpC _) ?_)
      | ((with_reducible refine at_loadG 23 ?_); refine step_loadG rfl 23 _ rfl E2 0 rfl (opC (usedV o)) _ (Blk.all Q5.out) Try.underlying23 rfl (szOpC _) ?_)
      | ((with_reducible refine at_bin .neq 23 ?_); refine step_neq (by rfl) 23 23 _ _ rfl (opC (usedV o)) (opC (usedV o)) rfl rfl gdo EQO.out false rfl ?_))
    exact JN0.out _ _ _ _ _ _ _ _ _ _ _ _ _ _ _ _ _ _ _ _ _ _ _ _ _ _ _ _ _ _ _ _ _ _ _ _ _ _ _ _ B5.out
  | false =>
    go_wp2_with (first
      | ((with_reducible refine at_loadG 23 ?_); refine step_loadG rfl 23 _ rfl E1 0 rfl (opC (usedV o)) _ (Blk.all P5.out) Try.underlying23 rfl (szOpC _) ?_)
      | ((with_reducible refine at_loadG 23 ?_); refine step_loadG rfl 23 _ rfl E2 0 rfl (opC (usedV o)) _ (Blk.all Q5.out) Try.underlying23 rfl (szOpC _) ?_)
      | ((with_reducible refine at_loadG 23 ?_); refine step_loadG rfl 23 _ rfl X 1 rfl (opC o) _ (Bx.op B5.out) Try.underlying23 rfl (szOpC _) ?_)
      | ((with_reducible refine at_bin .neq 23 ?_); refine step_neq (by rfl) 23 23 _ _ rfl (opC (usedV o)) (opC (usedV o)) rfl rfl gdo EQO.out false rfl ?_))
    refine (EO.out _).mono ?_
    rintro e w6 ⟨a6, m6, c6, rfl, r6, b6, z6⟩
    obtain rfl := z6 (by trivial)
    have B6 : Hid (Bx w X (recC k o (.slice aa an ac)) (ntL n) ([.int .i64 p.td, .slice sla sln slc, .slice sna snn snc]) w6) := B5.out.later b6
    clear b6 r6 z6 B5 P5 Q5
    go_wp2_with fail
    exact JN0.out _ _ _ _ _ _ _ _ _ _ _ _ _ _ _ _ _ _ _ _ _ _ _ _ _ _ _ _ _ _ _ _ _ _ _ _ _ _ _ _ B6.out
end Go.Proofs.Ytdbjjeaflfoppaa

namespace Go.Proofs.Ytdbjjeaflfoppaa.wireBackRecords
open Go.ChangeShapes Go.WideShapes Go.ChangeAt Go.RowKit

set_option maxRecDepth 100000 in
theorem contract (H : Type) (enc : TypeId × Value → H) (W : World) (base : Nat) (args : Array Value) (ds gs : List (DataW H)) (before : List MemPlace)
    (hval : ∀ (j : Nat) t v, Try.f5.params[j]? = some t → args[j]? = some v → Value.okWide Try.prog W .any base t v)
    (hW : DataW.Whole enc Try.prog Try.f5.params.toList Rows.wireBackRecordsSpec.vars false W args.toList ds gs before) (hk : Rows.uptoSmall H (ds ++ gs) = true) :
    Calls Try.prog 5 args W fun e W' => ∃ v, e = .returned v ∧ Rows.wireBackRecordsSpec.post enc Try.prog Try.f5 false true false false W args v W' := by
  have hW' := hW
  obtain ⟨p, q, hA0, hV, rfl, hfz, hnd⟩ := hW
  have hA : DataW.TrodAll enc Try.prog W 0 (fun _ => true) true Try.f5.params.toList args.toList ds p := hA0
  rw [Try.params5] at hA hval
  have hAll := hA
  obtain ⟨v0, vs0, d0, ds0, p0, q0, hargs, rfl, rfl, h0, r0⟩ := trodAll_cons hA
  obtain ⟨v1, vs1, d1, ds1, p1, q1, rfl, rfl, rfl, h1, r1⟩ := trodAll_cons r0
  obtain ⟨v2, vs2, d2, ds2, p2, q2, rfl, rfl, rfl, h2, r2⟩ := trodAll_cons r1
  obtain ⟨rfl, rfl, rfl⟩ := trodAll_nil r2
  obtain rfl : args = #[v0, v1, v2] := by cases args; simp_all
  obtain ⟨rfl, rfl⟩ := trodVars_none hV
  obtain ⟨k0, o0, xs0, va0, rfl, _, ok0, hx0, hl0, rd0⟩ := rec_open (hval 0 26 v0 rfl rfl) h0 (bulk_bound hk (d := d0) (by simp))
  obtain ⟨n1, rfl, ok1⟩ := nt_open (hval 1 28 v1 rfl rfl) h1
  obtain ⟨s2, vl2, vn2, rfl, ok2, pb2, rd2⟩ := po_open (hval 2 32 v2 rfl rfl) h2 (bulk_bound hk (d := d2) (by simp))
  clear hA0 hA
  refine (wireBack_any k0 o0 ok0 xs0 hx0 _ W hl0 rd0 n1 ok1 s2 ok2 pb2 _ _ rd2).mono fun e W' ⟨he, bel⟩ => ?_
  subst he
  exact ⟨_, rfl, _, _, _, [], _, [], hW', trodAll_mk1 (shut_bool Try.underlying4 _), trodAll_below laidOut bel (by kernel_rfl) hAll, rfl, bel.frame _, fun h => by cases h⟩

set_option maxRecDepth 100000 in
theorem lifted (os : Os) (started : os.Started) (H : Type) (enc : TypeId × Value → H) (F : Stop.Interp) :
    ReturnsInHanded {} Try.checked os 5 .any ((Rows.OpenSpec.upto Rows.wireBackRecordsSpec).pre6 enc Try.prog Try.f5 Rows.wireBackRecordsUptoRow.domain false) (((Rows.OpenSpec.upto Rows.wireBackRecordsSpec).at F).post enc Try.prog Try.f5 false true false false) := by
  refine returnsInHanded_of_cond (C := Try.checked) (s := Rows.OpenSpec.upto Rows.wireBackRecordsSpec) (k := Rows.uptoSmall) rfl own started (by kernel_rfl) Try.func5
    (OpenSpec.witness (enc := enc) (C := Try.checked) (s := Rows.OpenSpec.upto Rows.wireBackRecordsSpec) (k := Rows.uptoSmall) rfl false ⟨#[], #[.agg #[.int .i64 0, .int .i64 0, .int .i64 0, .int .i64 0, .int .i64 0, .int .i64 0, .int .i64 0, .string .empty, .slice none 0 0], .agg #[.int .i64 0, .int .i64 0, .int .i64 0, .int .i64 0, .int .i64 0, .bool false], .agg #[.int .i64 0, .slice none 0 0, .slice none 0 0]], []⟩ 8 (by kernel_rfl) (by kernel_rfl) (by kernel_rfl)
      (x := ([.agg [.lit (.int .i64 0), .agg [.lit (.int .i64 0), .lit (.int .i64 0), .lit (.int .i64 0), .lit (.int .i64 0), .lit (.int .i64 0), .lit (.int .i64 0), .lit (.string [])], .nil], .agg [.lit (.int .i64 0), .lit (.int .i64 0), .lit (.int .i64 0), .lit (.int .i64 0), .lit (.int .i64 0), .lit (.bool false)], .agg [.lit (.int .i64 0), .nil, .nil]], [], [])) (by kernel_rfl) rfl (by kernel_rfl)) ?_
  intro W base args ds gs before hval hW _ hk _
  exact contract H enc W base args ds gs before hval hW hk

theorem over : Rows.WireBackRecordsUptoSaid :=
  OpenClaim.holds_of_cond 5 Try.f5 rfl rfl rfl rfl rfl rfl rfl ⟨rfl, rfl, rfl, rfl, rfl⟩ rfl rfl rfl rfl rfl (by kernel_rfl) Try.func5 (by kernel_rfl)
    (of_decide_eq_true (by kernel_rfl)) (by unfold Func.isWrapper; first | (rw [if_pos (by decide +kernel)]; kernel_rfl) | (rw [if_neg (by decide +kernel)]; exact ⟨rfl, rfl⟩))
    (fun os started H enc _ F => lifted os started H enc F)
end Go.Proofs.Ytdbjjeaflfoppaa.wireBackRecords

namespace Go.Proofs.Ytdbjjeaflfoppaa
theorem wireBackRecords_upto : Rows.WireBackRecordsUptoSaid := wireBackRecords.over
#print axioms wireBackRecords_upto
end Go.Proofs.Ytdbjjeaflfoppaa
