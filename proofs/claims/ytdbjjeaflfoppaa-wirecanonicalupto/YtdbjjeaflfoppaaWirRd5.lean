/-
  Ours: the reader's loan (gen_wrd5.py: THE SEAT's OWN NUMBERS).
-/
import Derived.Test.YtdbjjeaflfoppaaWirRd4
namespace Go.Proofs.Ytdbjjeaflfoppaa
open Go.RowKit WsM

theorem csD_pin : Pin CsOk csD := fun x y r s ox oy h => by
  unfold csD at h
  simp only [List.append_assoc] at h
  obtain ⟨e1, h⟩ := putI_pin h
  obtain ⟨e2, h⟩ := putB_pin h
  obtain ⟨e3, h⟩ := putFs_pin (ox.2.2.1.trans oy.2.2.1.symm) h
  refine ⟨?_, h⟩
  obtain ⟨a, b, c⟩ := x
  obtain ⟨a', b', c'⟩ := y
  simp only at e1 e2 e3
  rw [e1, e2, e3]
theorem insL_pin : Pin (fun xs : List Ins => ∀ x ∈ xs, x.Ok) (lsB insB) := list_pin ins_pin
/-- A stage of a reading: what was read behind the one before. -/
abbrev Stg {α : Type} (f : α → List Nat) (Ok : α → Prop) (bs : List Nat) (s s' : Option Nat) (x : α) : Prop := (s = none → s' = none) ∧ ∀ q, s = some q → Got f Ok bs q s' x
theorem ln_got {bs : List Nat} {p : Nat} {s1 s2 s3 s4 s5 s6 s7 s8 s9 : Option Nat} {id : Int} {tm : List Int} {pl : List Ins} {bk : List Int} {cd : CsD} {d3 la : List Int} {hl : Bool} {c2 : List Int}
    (g1 : Got putI I64 bs p s1 id) (g2 : Stg putFs (fun xs : List Int => xs.length = 6 ∧ I64s xs) bs s1 s2 tm) (g3 : Stg (lsB insB) (fun xs : List Ins => ∀ x ∈ xs, x.Ok) bs s2 s3 pl) (g4 : Stg putFs (fun xs : List Int => xs.length = 12 ∧ I64s xs) bs s3 s4 bk)
    (g5 : Stg csD CsOk bs s4 s5 cd) (g6 : Stg putFs (fun xs : List Int => xs.length = 3 ∧ I64s xs) bs s5 s6 d3) (g7 : Stg putFs (fun xs : List Int => xs.length = 5 ∧ I64s xs) bs s6 s7 la) (g8 : Stg putB (fun _ : Bool => True) bs s7 s8 hl) (g9 : Stg putFs (fun xs : List Int => xs.length = 2 ∧ I64s xs) bs s8 s9 c2) :
    Got lnB Ln.Ok bs p s9 ⟨id, tm, pl, bk, cd.1, cd.2.1, cd.2.2, d3, la, hl, c2⟩ := by
  have h8 := fun q (hq : s7 = some q) => Got.seq putB_pinP (g8.2 q hq) g9.2 g9.1
  have n8 : s7 = none → s9 = none := fun e => g9.1 (g8.1 e)
  have h7 := fun q (hq : s6 = some q) => Got.seq (putFs_pinP 5) (g7.2 q hq) h8 n8
  have n7 : s6 = none → s9 = none := fun e => n8 (g7.1 e)
  have h6 := fun q (hq : s5 = some q) => Got.seq (putFs_pinP 3) (g6.2 q hq) h7 n7
  have n6 : s5 = none → s9 = none := fun e => n7 (g6.1 e)
  have h5 := fun q (hq : s4 = some q) => Got.seq csD_pin (g5.2 q hq) h6 n6
  have n5 : s4 = none → s9 = none := fun e => n6 (g5.1 e)
  have h4 := fun q (hq : s3 = some q) => Got.seq (putFs_pinP 12) (g4.2 q hq) h5 n5
  have n4 : s3 = none → s9 = none := fun e => n5 (g4.1 e)
  have h3 := fun q (hq : s2 = some q) => Got.seq insL_pin (g3.2 q hq) h4 n4
  have n3 : s2 = none → s9 = none := fun e => n4 (g3.1 e)
  have h2 := fun q (hq : s1 = some q) => Got.seq (putFs_pinP 6) (g2.2 q hq) h3 n3
  have n2 : s1 = none → s9 = none := fun e => n3 (g2.1 e)
  have h1 := Got.seq putI_pinP g1 h2 n2
  refine Got.iso (g := lnB) (OB := Ln.Ok) (fun a : Int × (List Int × (List Ins × (List Int × (CsD × (List Int × (List Int × (Bool × List Int))))))) => (⟨a.1, a.2.1, a.2.2.1, a.2.2.2.1, a.2.2.2.2.1.1, a.2.2.2.2.1.2.1, a.2.2.2.2.1.2.2, a.2.2.2.2.2.1, a.2.2.2.2.2.2.1, a.2.2.2.2.2.2.2.1, a.2.2.2.2.2.2.2.2⟩ : Ln)) ?_ (fun l ol => ⟨(l.id, (l.tm, (l.pl, (l.bk, ((l.st, (l.su, l.cs)), (l.d3, (l.la, (l.hl, l.c2)))))))), ?_, rfl⟩) (fun a oa => ?_) h1
  · intro a; rfl
  · exact ⟨ol.id _ (by simp), ⟨ol.tmL, ol.tm⟩, ol.pl, ⟨ol.bkL, ol.bk⟩, ⟨ol.st _ (by simp), trivial, ol.csL, ol.cs⟩, ⟨ol.d3L, ol.d3⟩, ⟨ol.laL, ol.la⟩, trivial, ⟨ol.c2L, ol.c2⟩⟩
  · obtain ⟨a1, ⟨a2, a3⟩, a4, ⟨a5, a6⟩, ⟨a7, _, a8, a9⟩, ⟨a10, a11⟩, ⟨a12, a13⟩, _, ⟨a14, a15⟩⟩ := oa
    exact ⟨fun z hz => by simp at hz; rw [hz]; exact a1, a2, a3, a4, a5, a6, fun z hz => by simp at hz; rw [hz]; exact a7, a8, a9, a10, a11, a12, a13, a14, a15⟩
theorem built_ln (id : Int) (tm : List Int) (a : Option Addr) (n c : Nat) (pl : List Ins) (bk : List Int) (cd : CsD) (d0 d1 d2 : Int) (la : List Int) (hl : Bool) (e0 e1 : Int) : Try.prog.built 65 [(0, .int .i64 id), (1, .agg (i6 tm).toArray), (2, .slice a n c), (3, .agg (i12 bk).toArray), (4, .agg (cs15 cd.1 cd.2.1 cd.2.2).toArray), (5, .int .i64 d0), (6, .int .i64 d1), (7, .int .i64 d2), (8, .agg (i5 la).toArray), (9, .bool hl), (10, .int .i64 e0), (11, .int .i64 e1)] = some (lnL ⟨id, tm, pl, bk, cd.1, cd.2.1, cd.2.2, [d0, d1, d2], la, hl, [e0, e1]⟩ (.slice a n c)).toArray := by kernel_rfl
theorem step_build12 {P : Program} {ops : Array Oper} {rest : List Oper} {op : Oper} {a : Act} {w : World} {Q : Exit → Act → World → Prop} (hgd : op.guard = none) (ty : TypeId) (x0 x1 x2 x3 x4 x5 x6 x7 x8 x9 x10 x11 : Operand) (ho : op.op = .build ty #[(0, x0), (1, x1), (2, x2), (3, x3), (4, x4), (5, x5), (6, x6), (7, x7), (8, x8), (9, x9), (10, x10), (11, x11)]) (u0 u1 u2 u3 u4 u5 u6 u7 u8 u9 u10 u11 : Value) (h0 : a.eval x0 = u0) (h1 : a.eval x1 = u1) (h2 : a.eval x2 = u2) (h3 : a.eval x3 = u3) (h4 : a.eval x4 = u4) (h5 : a.eval x5 = u5) (h6 : a.eval x6 = u6) (h7 : a.eval x7 = u7) (h8 : a.eval x8 = u8) (h9 : a.eval x9 = u9) (h10 : a.eval x10 = u10) (h11 : a.eval x11 = u11) (v : Value)
    (hr : (Instr.build ty #[(0, u0), (1, u1), (2, u2), (3, u3), (4, u4), (5, u5), (6, u6), (7, u7), (8, u8), (9, u9), (10, u10), (11, u11)]).run P w = .ok v w) (h : wpList P ops Q rest (a.put op.dst v) w) : wpList P ops Q (op :: rest) a w :=
  wpList_plain hgd fun _ hK => by
    unfold Oper.wp execOp
    simp only [ho, h0, h1, h2, h3, h4, h5, h6, h7, h8, h9, h10, h11, List.map_toArray, List.map_cons, List.map_nil, Sem.run_bind, Sem.run_pure, Result.andThen_ok, hr]
    exact hK _ _ h
theorem at_build {P : Program} {ops : Array Oper} {rest : List Oper} {a : Act} {w : World} {Q : Exit → Act → World → Prop} {dst : Option Tmp} (ty : TypeId) {t : TypeId} {ps : Array (Nat × Operand)} {pos : String} {af : Array Edge}
    (h : wpList P ops Q ({ dst := dst, op := .build ty ps, type := t, pos := pos, after := af, guard := none } :: rest) a w) : wpList P ops Q ({ dst := dst, op := .build ty ps, type := t, pos := pos, after := af, guard := none } :: rest) a w := h
/-- What the reader of a loan answers: the loan, its plan in new memory. -/
def LnAns (bs : List Nat) (R : Nat) (v : Value) (p : Nat) (w : World) (e : Ending) (w' : World) : Prop :=
  ∃ (l : Ln) (a : Option Addr) (n c : Nat) (y : Int) (st' : Option Nat), e = .returned (.tuple #[.agg (lnL l (.slice a n c)).toArray, .int .i64 y, .bool st'.isSome]) ∧ (∀ q, st' = some q → y = (q : Int)) ∧ RS bs R v st' w' ∧ w.grownBy w' (some R) ∧ RdS 4 w' (.slice a n c) (l.pl.map insL) ∧ (∀ g, (Value.slice a n c).ownBlock = some g → w.heap.size ≤ g ∧ g < w'.heap.size) ∧ Got lnB Ln.Ok bs p st' l
set_option maxRecDepth 40000 in
set_option maxHeartbeats 8000000 in
theorem loan_at (bs : List Nat) (hb : ∀ c ∈ bs, c < 256) (hl : bs.length ≤ 1000000000000) (R : Nat) (v : Value) (p : Nat) (w : World) (h : Seeks bs R v p w) :
    Calls Try.prog 54 #[.pointer (some ⟨R, 0, none⟩), v, .int .i64 (p : Int)] w (LnAns bs R v p w) := by
  have CI : Hid (∀ W s, RS bs R v s W → Calls Try.prog 74 #[.pointer (some ⟨R, 0, none⟩)] W fun e w' => ∃ n s', e = .returned (.int .i64 n) ∧ tkI bs s = (n, s') ∧ RS bs R v s' w' ∧ W.grownBy w' (some R)) := fun W s hs => (number_at bs hb hl R v s W hs).mono fun e w' ⟨h1, h2, h3⟩ => ⟨_, _, h1, rfl, h2, h3⟩
  have CC : Hid (∀ W s, RS bs R v s W → Calls Try.prog 80 #[.pointer (some ⟨R, 0, none⟩)] W fun e w' => ∃ n s', e = .returned (.int .i64 n) ∧ tkI bs s = (n, s') ∧ RS bs R v s' w' ∧ W.grownBy w' (some R)) := fun W s hs => (cents_at bs hb hl R v s W hs).mono fun e w' ⟨h1, h2, h3⟩ => ⟨_, _, h1, rfl, h2, h3⟩
  have CB : Hid (∀ W s, RS bs R v s W → Calls Try.prog 82 #[.pointer (some ⟨R, 0, none⟩)] W fun e w' => ∃ n s', e = .returned (.bool n) ∧ tkB bs s = (n, s') ∧ RS bs R v s' w' ∧ W.grownBy w' (some R)) := fun W s hs => (truth_at bs hb hl R v s W hs).mono fun e w' ⟨h1, h2, h3⟩ => ⟨_, _, h1, rfl, h2, h3⟩
  have CT : Hid (∀ W s, RS bs R v s W → Calls Try.prog 75 #[.pointer (some ⟨R, 0, none⟩)] W (RdAns i6 putFs (fun xs : List Int => xs.length = 6 ∧ I64s xs) bs R v s W)) := fun W s hs => terms_at bs hb hl R v s W hs
  have CL : Hid (∀ W s, RS bs R v s W → Calls Try.prog 76 #[.pointer (some ⟨R, 0, none⟩), .func (.func 77) #[.pointer (some ⟨R, 0, none⟩)] #[]] W (TkAns 4 insL insB Ins.Ok bs R v s W)) := fun W s hs => takeListIns_at bs hb hl R v s W hs
  have CK : Hid (∀ W s, RS bs R v s W → Calls Try.prog 78 #[.pointer (some ⟨R, 0, none⟩)] W (RdAns i12 putFs (fun xs : List Int => xs.length = 12 ∧ I64s xs) bs R v s W)) := fun W s hs => book_at bs hb hl R v s W hs
  have CS : Hid (∀ W s, RS bs R v s W → Calls Try.prog 79 #[.pointer (some ⟨R, 0, none⟩)] W (RdAns (fun c : CsD => cs15 c.1 c.2.1 c.2.2) csD CsOk bs R v s W)) := fun W s hs => case_at bs hb hl R v s W hs
  have CP : Hid (∀ W s, RS bs R v s W → Calls Try.prog 81 #[.pointer (some ⟨R, 0, none⟩)] W (RdAns i5 putFs (fun xs : List Int => xs.length = 5 ∧ I64s xs) bs R v s W)) := fun W s hs => parts_at bs hb hl R v s W hs
  have hmf : ∀ (fn : Fn) (first cap : Array Value) (w : World), (Instr.makeFunc fn first cap).run Try.prog w = .ok (.func fn first cap) w := fun _ _ _ _ => rfl
  have HB : Hid (∀ c ∈ bs, c < 256) := hb
  obtain ⟨hR, hV, hS⟩ := h
  have SK : Hid (∀ W, Below w.heap.size w W → Calls Try.prog 68 #[.pointer (some ⟨R, 0, none⟩), v, .int .i64 (p : Int)] W fun e w' => e = .returned (.tuple #[]) ∧ RS bs R v (some p) w' ∧ W.grownBy w' (some R)) := hS
  have DV : Hid (0 < bs.length → v.ownBlock = some w.heap.size → False) := fun h0 e => by have := hV h0 _ e; omega
  have DW : Hid (∀ g, w.heap.size ≤ g → 0 < bs.length → v.ownBlock = some g → False) := fun g hg h0 e => by have := hV h0 _ e; omega
  have B0 : Hid (Blk w.heap.size 65 [.int .i64 0, .int .i64 0, .int .i64 0, .int .i64 0, .int .i64 0, .int .i64 0, .int .i64 0, .slice none 0 0, .int .i64 0, .int .i64 0, .int .i64 0, .int .i64 0, .int .i64 0, .int .i64 0, .int .i64 0, .int .i64 0, .int .i64 0, .int .i64 0, .int .i64 0, .int .i64 0, .int .i64 0, .bool false, .int .i64 0, .int .i64 0, .int .i64 0, .int .i64 0, .int .i64 0, .int .i64 0, .int .i64 0, .int .i64 0, .int .i64 0, .int .i64 0, .int .i64 0, .int .i64 0, .int .i64 0, .int .i64 0, .int .i64 0, .int .i64 0, .int .i64 0, .int .i64 0, .int .i64 0, .int .i64 0, .int .i64 0, .bool false, .int .i64 0, .int .i64 0] (w.alloc (.cells #[.int .i64 0, .int .i64 0, .int .i64 0, .int .i64 0, .int .i64 0, .int .i64 0, .int .i64 0, .slice none 0 0, .int .i64 0, .int .i64 0, .int .i64 0, .int .i64 0, .int .i64 0, .int .i64 0, .int .i64 0, .int .i64 0, .int .i64 0, .int .i64 0, .int .i64 0, .int .i64 0, .int .i64 0, .bool false, .int .i64 0, .int .i64 0, .int .i64 0, .int .i64 0, .int .i64 0, .int .i64 0, .int .i64 0, .int .i64 0, .int .i64 0, .int .i64 0, .int .i64 0, .int .i64 0, .int .i64 0, .int .i64 0, .int .i64 0, .int .i64 0, .int .i64 0, .int .i64 0, .int .i64 0, .int .i64 0, .int .i64 0, .bool false, .int .i64 0, .int .i64 0] 65))) := Blk.new _ _ _
  have BW : Hid (Below w.heap.size w (w.alloc (.cells #[.int .i64 0, .int .i64 0, .int .i64 0, .int .i64 0, .int .i64 0, .int .i64 0, .int .i64 0, .slice none 0 0, .int .i64 0, .int .i64 0, .int .i64 0, .int .i64 0, .int .i64 0, .int .i64 0, .int .i64 0, .int .i64 0, .int .i64 0, .int .i64 0, .int .i64 0, .int .i64 0, .int .i64 0, .bool false, .int .i64 0, .int .i64 0, .int .i64 0, .int .i64 0, .int .i64 0, .int .i64 0, .int .i64 0, .int .i64 0, .int .i64 0, .int .i64 0, .int .i64 0, .int .i64 0, .int .i64 0, .int .i64 0, .int .i64 0, .int .i64 0, .int .i64 0, .int .i64 0, .int .i64 0, .int .i64 0, .int .i64 0, .bool false, .int .i64 0, .int .i64 0] 65))) := below_alloc _ _
  have huT := Try.underlying65
  clear hb hl hV hS
  go_enter Try.func54, Try.ntmps54
  go_upto_region 1 with fail
  generalize w.alloc (.cells #[.int .i64 0, .int .i64 0, .int .i64 0, .int .i64 0, .int .i64 0, .int .i64 0, .int .i64 0, .slice none 0 0, .int .i64 0, .int .i64 0, .int .i64 0, .int .i64 0, .int .i64 0, .int .i64 0, .int .i64 0, .int .i64 0, .int .i64 0, .int .i64 0, .int .i64 0, .int .i64 0, .int .i64 0, .bool false, .int .i64 0, .int .i64 0, .int .i64 0, .int .i64 0, .int .i64 0, .int .i64 0, .int .i64 0, .int .i64 0, .int .i64 0, .int .i64 0, .int .i64 0, .int .i64 0, .int .i64 0, .int .i64 0, .int .i64 0, .int .i64 0, .int .i64 0, .int .i64 0, .int .i64 0, .int .i64 0, .int .i64 0, .bool false, .int .i64 0, .int .i64 0] 65) = W0 at *
  obtain ⟨D, hD⟩ : ∃ D, w.heap.size = D := ⟨_, rfl⟩
  have HD : Hid (w.heap.size = D) := hD
  rw [hD] at B0 DV ⊢
  have RD : Hid (R ≠ D) := by show _ ≠ _; omega
  have LD : Hid (R < D) := by show _ < _; omega
  clear hD hR
  go_wp2_with fail
  refine (SK.out _ BW.out).mono ?_
  rintro e w1 ⟨rfl, k, g⟩
  have K1 : Hid (RS bs R v (some p) w1) := k
  have D1 : Hid (Blk D 65 [.int .i64 0, .int .i64 0, .int .i64 0, .int .i64 0, .int .i64 0, .int .i64 0, .int .i64 0, .slice none 0 0, .int .i64 0, .int .i64 0, .int .i64 0, .int .i64 0, .int .i64 0, .int .i64 0, .int .i64 0, .int .i64 0, .int .i64 0, .int .i64 0, .int .i64 0, .int .i64 0, .int .i64 0, .bool false, .int .i64 0, .int .i64 0, .int .i64 0, .int .i64 0, .int .i64 0, .int .i64 0, .int .i64 0, .int .i64 0, .int .i64 0, .int .i64 0, .int .i64 0, .int .i64 0, .int .i64 0, .int .i64 0, .int .i64 0, .int .i64 0, .int .i64 0, .int .i64 0, .int .i64 0, .int .i64 0, .int .i64 0, .bool false, .int .i64 0, .int .i64 0] w1) := B0.out.grown g RD.out
  have G1 : Hid (w.grownBy w1 (some R)) := grownBy_trans (grownBy_below BW.out _) g
  have HPP : Hid (p ≤ bs.length) := k.le p rfl
  clear k g B0 BW SK
  go_wp2_with fail
  refine (CI.out _ _ K1.out).mono ?_
  rintro e w2 ⟨id, t1, rfl, eqx, k, g⟩
  have E0 : Hid (tkI bs (some p) = (id, t1)) := eqx
  have K2 : Hid (RS bs R v t1 w2) := k
  have D2 : Hid (Blk D 65 [.int .i64 0, .int .i64 0, .int .i64 0, .int .i64 0, .int .i64 0, .int .i64 0, .int .i64 0, .slice none 0 0, .int .i64 0, .int .i64 0, .int .i64 0, .int .i64 0, .int .i64 0, .int .i64 0, .int .i64 0, .int .i64 0, .int .i64 0, .int .i64 0, .int .i64 0, .int .i64 0, .int .i64 0, .bool false, .int .i64 0, .int .i64 0, .int .i64 0, .int .i64 0, .int .i64 0, .int .i64 0, .int .i64 0, .int .i64 0, .int .i64 0, .int .i64 0, .int .i64 0, .int .i64 0, .int .i64 0, .int .i64 0, .int .i64 0, .int .i64 0, .int .i64 0, .int .i64 0, .int .i64 0, .int .i64 0, .int .i64 0, .bool false, .int .i64 0, .int .i64 0] w2) := D1.out.grown g RD.out
  have G2 : Hid (w.grownBy w2 (some R)) := grownBy_trans G1.out g
  clear k g eqx K1 D1 G1
  go_wp2_with fail
  refine (CT.out _ _ K2.out).mono ?_
  rintro e w3 ⟨tm, t2, rfl, k, g, gn, gt⟩
  have E1 : Hid (Stg putFs (fun xs : List Int => xs.length = 6 ∧ I64s xs) bs t1 t2 tm) := ⟨gn, gt⟩
  have K3 : Hid (RS bs R v t2 w3) := k
  have D3 : Hid (Blk D 65 [.int .i64 0, .int .i64 0, .int .i64 0, .int .i64 0, .int .i64 0, .int .i64 0, .int .i64 0, .slice none 0 0, .int .i64 0, .int .i64 0, .int .i64 0, .int .i64 0, .int .i64 0, .int .i64 0, .int .i64 0, .int .i64 0, .int .i64 0, .int .i64 0, .int .i64 0, .int .i64 0, .int .i64 0, .bool false, .int .i64 0, .int .i64 0, .int .i64 0, .int .i64 0, .int .i64 0, .int .i64 0, .int .i64 0, .int .i64 0, .int .i64 0, .int .i64 0, .int .i64 0, .int .i64 0, .int .i64 0, .int .i64 0, .int .i64 0, .int .i64 0, .int .i64 0, .int .i64 0, .int .i64 0, .int .i64 0, .int .i64 0, .bool false, .int .i64 0, .int .i64 0] w3) := D2.out.grown g RD.out
  have G3 : Hid (w.grownBy w3 (some R)) := grownBy_trans G2.out g
  clear k g gn gt K2 D2 G2
  go_wp2_with fail
  refine (CL.out _ _ K3.out).mono ?_
  rintro e w4 ⟨a, n, c, pl, t3, rfl, rp, rb, k, g, gn, gt⟩
  have E2 : Hid (Stg (lsB insB) (fun xs : List Ins => ∀ x ∈ xs, x.Ok) bs t2 t3 pl) := ⟨gn, gt⟩
  have K4 : Hid (RS bs R v t3 w4) := k
  have D4 : Hid (Blk D 65 [.int .i64 0, .int .i64 0, .int .i64 0, .int .i64 0, .int .i64 0, .int .i64 0, .int .i64 0, .slice none 0 0, .int .i64 0, .int .i64 0, .int .i64 0, .int .i64 0, .int .i64 0, .int .i64 0, .int .i64 0, .int .i64 0, .int .i64 0, .int .i64 0, .int .i64 0, .int .i64 0, .int .i64 0, .bool false, .int .i64 0, .int .i64 0, .int .i64 0, .int .i64 0, .int .i64 0, .int .i64 0, .int .i64 0, .int .i64 0, .int .i64 0, .int .i64 0, .int .i64 0, .int .i64 0, .int .i64 0, .int .i64 0, .int .i64 0, .int .i64 0, .int .i64 0, .int .i64 0, .int .i64 0, .int .i64 0, .int .i64 0, .bool false, .int .i64 0, .int .i64 0] w4) := D3.out.grown g RD.out
  have G4 : Hid (w.grownBy w4 (some R)) := grownBy_trans G3.out g
  have P4 : Hid (RdS 4 w4 (.slice a n c) (pl.map insL)) := rp
  have PND : Hid (∀ g, (Value.slice a n c).ownBlock = some g → ¬ g = D) := fun z hz e => by have := rb z hz; have := D3.out.lt; omega
  have PB4 : Hid (∀ g, (Value.slice a n c).ownBlock = some g → w.heap.size ≤ g ∧ g < w4.heap.size) := fun z hz => by have := rb z hz; have := G3.out.size; omega
  clear k g gn gt rp rb K3 D3 G3
  go_wp2_with fail
  refine (CK.out _ _ K4.out).mono ?_
  rintro e w5 ⟨bk, t4, rfl, k, g, gn, gt⟩
  have E3 : Hid (Stg putFs (fun xs : List Int => xs.length = 12 ∧ I64s xs) bs t3 t4 bk) := ⟨gn, gt⟩
  have K5 : Hid (RS bs R v t4 w5) := k
  have D5 : Hid (Blk D 65 [.int .i64 0, .int .i64 0, .int .i64 0, .int .i64 0, .int .i64 0, .int .i64 0, .int .i64 0, .slice none 0 0, .int .i64 0, .int .i64 0, .int .i64 0, .int .i64 0, .int .i64 0, .int .i64 0, .int .i64 0, .int .i64 0, .int .i64 0, .int .i64 0, .int .i64 0, .int .i64 0, .int .i64 0, .bool false, .int .i64 0, .int .i64 0, .int .i64 0, .int .i64 0, .int .i64 0, .int .i64 0, .int .i64 0, .int .i64 0, .int .i64 0, .int .i64 0, .int .i64 0, .int .i64 0, .int .i64 0, .int .i64 0, .int .i64 0, .int .i64 0, .int .i64 0, .int .i64 0, .int .i64 0, .int .i64 0, .int .i64 0, .bool false, .int .i64 0, .int .i64 0] w5) := D4.out.grown g RD.out
  have G5 : Hid (w.grownBy w5 (some R)) := grownBy_trans G4.out g
  have P5 : Hid (RdS 4 w5 (.slice a n c) (pl.map insL)) := P4.out.grown g (fun z hz e => by have := PB4.out z hz; have := LD.out; have := HD.out; injection e with e; omega)
  have PB5 : Hid (∀ g, (Value.slice a n c).ownBlock = some g → w.heap.size ≤ g ∧ g < w5.heap.size) := fun z hz => by have := PB4.out z hz; have := g.size; omega
  clear k g gn gt K4 D4 G4 P4 PB4
  go_wp2_with fail
  refine (CS.out _ _ K5.out).mono ?_
  rintro e w6 ⟨cd, t5, rfl, k, g, gn, gt⟩
  have E4 : Hid (Stg csD CsOk bs t4 t5 cd) := ⟨gn, gt⟩
  have LE5 : Hid (∀ q, t5 = some q → q ≤ bs.length) := fun q hq => k.le q hq
  have K6 : Hid (RS bs R v t5 w6) := k
  have D6 : Hid (Blk D 65 [.int .i64 0, .int .i64 0, .int .i64 0, .int .i64 0, .int .i64 0, .int .i64 0, .int .i64 0, .slice none 0 0, .int .i64 0, .int .i64 0, .int .i64 0, .int .i64 0, .int .i64 0, .int .i64 0, .int .i64 0, .int .i64 0, .int .i64 0, .int .i64 0, .int .i64 0, .int .i64 0, .int .i64 0, .bool false, .int .i64 0, .int .i64 0, .int .i64 0, .int .i64 0, .int .i64 0, .int .i64 0, .int .i64 0, .int .i64 0, .int .i64 0, .int .i64 0, .int .i64 0, .int .i64 0, .int .i64 0, .int .i64 0, .int .i64 0, .int .i64 0, .int .i64 0, .int .i64 0, .int .i64 0, .int .i64 0, .int .i64 0, .bool false, .int .i64 0, .int .i64 0] w6) := D5.out.grown g RD.out
  have G6 : Hid (w.grownBy w6 (some R)) := grownBy_trans G5.out g
  have P6 : Hid (RdS 4 w6 (.slice a n c) (pl.map insL)) := P5.out.grown g (fun z hz e => by have := PB5.out z hz; have := LD.out; have := HD.out; injection e with e; omega)
  have PB6 : Hid (∀ g, (Value.slice a n c).ownBlock = some g → w.heap.size ≤ g ∧ g < w6.heap.size) := fun z hz => by have := PB5.out z hz; have := g.size; omega
  clear k g gn gt K5 D5 G5 P5 PB5
  go_wp2_with fail
  refine (CI.out _ _ K6.out).mono ?_
  rintro e w7 ⟨d0, t6, rfl, eqx, k, g⟩
  have E5 : Hid (tkI bs t5 = (d0, t6)) := eqx
  have K7 : Hid (RS bs R v t6 w7) := k
  have D7 : Hid (Blk D 65 [.int .i64 0, .int .i64 0, .int .i64 0, .int .i64 0, .int .i64 0, .int .i64 0, .int .i64 0, .slice none 0 0, .int .i64 0, .int .i64 0, .int .i64 0, .int .i64 0, .int .i64 0, .int .i64 0, .int .i64 0, .int .i64 0, .int .i64 0, .int .i64 0, .int .i64 0, .int .i64 0, .int .i64 0, .bool false, .int .i64 0, .int .i64 0, .int .i64 0, .int .i64 0, .int .i64 0, .int .i64 0, .int .i64 0, .int .i64 0, .int .i64 0, .int .i64 0, .int .i64 0, .int .i64 0, .int .i64 0, .int .i64 0, .int .i64 0, .int .i64 0, .int .i64 0, .int .i64 0, .int .i64 0, .int .i64 0, .int .i64 0, .bool false, .int .i64 0, .int .i64 0] w7) := D6.out.grown g RD.out
  have G7 : Hid (w.grownBy w7 (some R)) := grownBy_trans G6.out g
  have P7 : Hid (RdS 4 w7 (.slice a n c) (pl.map insL)) := P6.out.grown g (fun z hz e => by have := PB6.out z hz; have := LD.out; have := HD.out; injection e with e; omega)
  have PB7 : Hid (∀ g, (Value.slice a n c).ownBlock = some g → w.heap.size ≤ g ∧ g < w7.heap.size) := fun z hz => by have := PB6.out z hz; have := g.size; omega
  clear k g eqx K6 D6 G6 P6 PB6
  go_wp2_with fail
  refine (CC.out _ _ K7.out).mono ?_
  rintro e w8 ⟨d1, t7, rfl, eqx, k, g⟩
  have E6 : Hid (tkI bs t6 = (d1, t7)) := eqx
  have K8 : Hid (RS bs R v t7 w8) := k
  have D8 : Hid (Blk D 65 [.int .i64 0, .int .i64 0, .int .i64 0, .int .i64 0, .int .i64 0, .int .i64 0, .int .i64 0, .slice none 0 0, .int .i64 0, .int .i64 0, .int .i64 0, .int .i64 0, .int .i64 0, .int .i64 0, .int .i64 0, .int .i64 0, .int .i64 0, .int .i64 0, .int .i64 0, .int .i64 0, .int .i64 0, .bool false, .int .i64 0, .int .i64 0, .int .i64 0, .int .i64 0, .int .i64 0, .int .i64 0, .int .i64 0, .int .i64 0, .int .i64 0, .int .i64 0, .int .i64 0, .int .i64 0, .int .i64 0, .int .i64 0, .int .i64 0, .int .i64 0, .int .i64 0, .int .i64 0, .int .i64 0, .int .i64 0, .int .i64 0, .bool false, .int .i64 0, .int .i64 0] w8) := D7.out.grown g RD.out
  have G8 : Hid (w.grownBy w8 (some R)) := grownBy_trans G7.out g
  have P8 : Hid (RdS 4 w8 (.slice a n c) (pl.map insL)) := P7.out.grown g (fun z hz e => by have := PB7.out z hz; have := LD.out; have := HD.out; injection e with e; omega)
  have PB8 : Hid (∀ g, (Value.slice a n c).ownBlock = some g → w.heap.size ≤ g ∧ g < w8.heap.size) := fun z hz => by have := PB7.out z hz; have := g.size; omega
  clear k g eqx K7 D7 G7 P7 PB7
  go_wp2_with fail
  refine (CC.out _ _ K8.out).mono ?_
  rintro e w9 ⟨d2, t8, rfl, eqx, k, g⟩
  have E7 : Hid (tkI bs t7 = (d2, t8)) := eqx
  have K9 : Hid (RS bs R v t8 w9) := k
  have D9 : Hid (Blk D 65 [.int .i64 0, .int .i64 0, .int .i64 0, .int .i64 0, .int .i64 0, .int .i64 0, .int .i64 0, .slice none 0 0, .int .i64 0, .int .i64 0, .int .i64 0, .int .i64 0, .int .i64 0, .int .i64 0, .int .i64 0, .int .i64 0, .int .i64 0, .int .i64 0, .int .i64 0, .int .i64 0, .int .i64 0, .bool false, .int .i64 0, .int .i64 0, .int .i64 0, .int .i64 0, .int .i64 0, .int .i64 0, .int .i64 0, .int .i64 0, .int .i64 0, .int .i64 0, .int .i64 0, .int .i64 0, .int .i64 0, .int .i64 0, .int .i64 0, .int .i64 0, .int .i64 0, .int .i64 0, .int .i64 0, .int .i64 0, .int .i64 0, .bool false, .int .i64 0, .int .i64 0] w9) := D8.out.grown g RD.out
  have G9 : Hid (w.grownBy w9 (some R)) := grownBy_trans G8.out g
  have P9 : Hid (RdS 4 w9 (.slice a n c) (pl.map insL)) := P8.out.grown g (fun z hz e => by have := PB8.out z hz; have := LD.out; have := HD.out; injection e with e; omega)
  have PB9 : Hid (∀ g, (Value.slice a n c).ownBlock = some g → w.heap.size ≤ g ∧ g < w9.heap.size) := fun z hz => by have := PB8.out z hz; have := g.size; omega
  clear k g eqx K8 D8 G8 P8 PB8
  go_wp2_with fail
  refine (CP.out _ _ K9.out).mono ?_
  rintro e w10 ⟨la, t9, rfl, k, g, gn, gt⟩
  have E8 : Hid (Stg putFs (fun xs : List Int => xs.length = 5 ∧ I64s xs) bs t8 t9 la) := ⟨gn, gt⟩
  have K10 : Hid (RS bs R v t9 w10) := k
  have D10 : Hid (Blk D 65 [.int .i64 0, .int .i64 0, .int .i64 0, .int .i64 0, .int .i64 0, .int .i64 0, .int .i64 0, .slice none 0 0, .int .i64 0, .int .i64 0, .int .i64 0, .int .i64 0, .int .i64 0, .int .i64 0, .int .i64 0, .int .i64 0, .int .i64 0, .int .i64 0, .int .i64 0, .int .i64 0, .int .i64 0, .bool false, .int .i64 0, .int .i64 0, .int .i64 0, .int .i64 0, .int .i64 0, .int .i64 0, .int .i64 0, .int .i64 0, .int .i64 0, .int .i64 0, .int .i64 0, .int .i64 0, .int .i64 0, .int .i64 0, .int .i64 0, .int .i64 0, .int .i64 0, .int .i64 0, .int .i64 0, .int .i64 0, .int .i64 0, .bool false, .int .i64 0, .int .i64 0] w10) := D9.out.grown g RD.out
  have G10 : Hid (w.grownBy w10 (some R)) := grownBy_trans G9.out g
  have P10 : Hid (RdS 4 w10 (.slice a n c) (pl.map insL)) := P9.out.grown g (fun z hz e => by have := PB9.out z hz; have := LD.out; have := HD.out; injection e with e; omega)
  have PB10 : Hid (∀ g, (Value.slice a n c).ownBlock = some g → w.heap.size ≤ g ∧ g < w10.heap.size) := fun z hz => by have := PB9.out z hz; have := g.size; omega
  clear k g gn gt K9 D9 G9 P9 PB9
  go_wp2_with fail
  refine (CB.out _ _ K10.out).mono ?_
  rintro e w11 ⟨hl, t10, rfl, eqx, k, g⟩
  have E9 : Hid (tkB bs t9 = (hl, t10)) := eqx
  have LE10 : Hid (∀ q, t10 = some q → q ≤ bs.length) := fun q hq => k.le q hq
  have K11 : Hid (RS bs R v t10 w11) := k
  have D11 : Hid (Blk D 65 [.int .i64 0, .int .i64 0, .int .i64 0, .int .i64 0, .int .i64 0, .int .i64 0, .int .i64 0, .slice none 0 0, .int .i64 0, .int .i64 0, .int .i64 0, .int .i64 0, .int .i64 0, .int .i64 0, .int .i64 0, .int .i64 0, .int .i64 0, .int .i64 0, .int .i64 0, .int .i64 0, .int .i64 0, .bool false, .int .i64 0, .int .i64 0, .int .i64 0, .int .i64 0, .int .i64 0, .int .i64 0, .int .i64 0, .int .i64 0, .int .i64 0, .int .i64 0, .int .i64 0, .int .i64 0, .int .i64 0, .int .i64 0, .int .i64 0, .int .i64 0, .int .i64 0, .int .i64 0, .int .i64 0, .int .i64 0, .int .i64 0, .bool false, .int .i64 0, .int .i64 0] w11) := D10.out.grown g RD.out
  have G11 : Hid (w.grownBy w11 (some R)) := grownBy_trans G10.out g
  have P11 : Hid (RdS 4 w11 (.slice a n c) (pl.map insL)) := P10.out.grown g (fun z hz e => by have := PB10.out z hz; have := LD.out; have := HD.out; injection e with e; omega)
  have PB11 : Hid (∀ g, (Value.slice a n c).ownBlock = some g → w.heap.size ≤ g ∧ g < w11.heap.size) := fun z hz => by have := PB10.out z hz; have := g.size; omega
  clear k g eqx K10 D10 G10 P10 PB10
  go_wp2_with fail
  refine (CC.out _ _ K11.out).mono ?_
  rintro e w12 ⟨e0, t11, rfl, eqx, k, g⟩
  have E10 : Hid (tkI bs t10 = (e0, t11)) := eqx
  have K12 : Hid (RS bs R v t11 w12) := k
  have D12 : Hid (Blk D 65 [.int .i64 0, .int .i64 0, .int .i64 0, .int .i64 0, .int .i64 0, .int .i64 0, .int .i64 0, .slice none 0 0, .int .i64 0, .int .i64 0, .int .i64 0, .int .i64 0, .int .i64 0, .int .i64 0, .int .i64 0, .int .i64 0, .int .i64 0, .int .i64 0, .int .i64 0, .int .i64 0, .int .i64 0, .bool false, .int .i64 0, .int .i64 0, .int .i64 0, .int .i64 0, .int .i64 0, .int .i64 0, .int .i64 0, .int .i64 0, .int .i64 0, .int .i64 0, .int .i64 0, .int .i64 0, .int .i64 0, .int .i64 0, .int .i64 0, .int .i64 0, .int .i64 0, .int .i64 0, .int .i64 0, .int .i64 0, .int .i64 0, .bool false, .int .i64 0, .int .i64 0] w12) := D11.out.grown g RD.out
  have G12 : Hid (w.grownBy w12 (some R)) := grownBy_trans G11.out g
  have P12 : Hid (RdS 4 w12 (.slice a n c) (pl.map insL)) := P11.out.grown g (fun z hz e => by have := PB11.out z hz; have := LD.out; have := HD.out; injection e with e; omega)
  have PB12 : Hid (∀ g, (Value.slice a n c).ownBlock = some g → w.heap.size ≤ g ∧ g < w12.heap.size) := fun z hz => by have := PB11.out z hz; have := g.size; omega
  clear k g eqx K11 D11 G11 P11 PB11
  go_wp2_with fail
  refine (CI.out _ _ K12.out).mono ?_
  rintro e w13 ⟨e1, s9, rfl, eqx, k, g⟩
  have E11 : Hid (tkI bs t11 = (e1, s9)) := eqx
  have K13 : Hid (RS bs R v s9 w13) := k
  have D13 : Hid (Blk D 65 [.int .i64 0, .int .i64 0, .int .i64 0, .int .i64 0, .int .i64 0, .int .i64 0, .int .i64 0, .slice none 0 0, .int .i64 0, .int .i64 0, .int .i64 0, .int .i64 0, .int .i64 0, .int .i64 0, .int .i64 0, .int .i64 0, .int .i64 0, .int .i64 0, .int .i64 0, .int .i64 0, .int .i64 0, .bool false, .int .i64 0, .int .i64 0, .int .i64 0, .int .i64 0, .int .i64 0, .int .i64 0, .int .i64 0, .int .i64 0, .int .i64 0, .int .i64 0, .int .i64 0, .int .i64 0, .int .i64 0, .int .i64 0, .int .i64 0, .int .i64 0, .int .i64 0, .int .i64 0, .int .i64 0, .int .i64 0, .int .i64 0, .bool false, .int .i64 0, .int .i64 0] w13) := D12.out.grown g RD.out
  have G13 : Hid (w.grownBy w13 (some R)) := grownBy_trans G12.out g
  have P13 : Hid (RdS 4 w13 (.slice a n c) (pl.map insL)) := P12.out.grown g (fun z hz e => by have := PB12.out z hz; have := LD.out; have := HD.out; injection e with e; omega)
  have PB13 : Hid (∀ g, (Value.slice a n c).ownBlock = some g → w.heap.size ≤ g ∧ g < w13.heap.size) := fun z hz => by have := PB12.out z hz; have := g.size; omega
  clear k g eqx K12 D12 G12 P12 PB12
  have GT : Hid (Got lnB Ln.Ok bs p s9 ⟨id, tm, pl, bk, cd.1, cd.2.1, cd.2.2, [d0, d1, d2], la, hl, [e0, e1]⟩) := by
    have q0 := tkI_got HB.out HPP.out
    rw [E0.out] at q0
    have le5 : ∀ q, t5 = some q → q ≤ bs.length := fun q hq => LE5.out q hq
    have le10 : ∀ q, t10 = some q → q ≤ bs.length := fun q hq => LE10.out q hq
    have T3 : tkN bs 3 t5 = ([d0, d1, d2], t8) := by simp only [tkN, E5.out, E6.out, E7.out]
    have T2 : tkN bs 2 t10 = ([e0, e1], s9) := by simp only [tkN, E10.out, E11.out]
    have g6 := nums_got HB.out T3 le5
    have g9 := nums_got HB.out T2 le10
    have g8 : Stg putB (fun _ : Bool => True) bs t9 t10 hl := ⟨fun e => by have h := E9.out; rw [e] at h; injection h with _ h; exact h.symm, fun q hq => by have h := E9.out; rw [hq] at h; have := tkB_got (bs := bs) (p := q); rw [h] at this; exact this⟩
    exact ln_got q0 E1.out E2.out E3.out E4.out g6 E8.out g8 g9
  clear CI CC CB CT CL CK CS CP E0 E1 E2 E3 E4 E5 E6 E7 E8 E9 E10 E11 LE5 LE10 HB
  obtain ⟨E, hE⟩ : ∃ E, w13.heap.size = E := ⟨_, rfl⟩
  have EG : Hid (D < E) := by show _ < _; rw [← hE]; exact D13.out.lt
  have DE : Hid (¬ D = E) := by show ¬ _; have := EG.out; omega
  have EN : Hid (Blk E 65 [.int .i64 0, .int .i64 0, .int .i64 0, .int .i64 0, .int .i64 0, .int .i64 0, .int .i64 0, .slice none 0 0, .int .i64 0, .int .i64 0, .int .i64 0, .int .i64 0, .int .i64 0, .int .i64 0, .int .i64 0, .int .i64 0, .int .i64 0, .int .i64 0, .int .i64 0, .int .i64 0, .int .i64 0, .bool false, .int .i64 0, .int .i64 0, .int .i64 0, .int .i64 0, .int .i64 0, .int .i64 0, .int .i64 0, .int .i64 0, .int .i64 0, .int .i64 0, .int .i64 0, .int .i64 0, .int .i64 0, .int .i64 0, .int .i64 0, .int .i64 0, .int .i64 0, .int .i64 0, .int .i64 0, .int .i64 0, .int .i64 0, .bool false, .int .i64 0, .int .i64 0] (w13.alloc (.cells #[.int .i64 0, .int .i64 0, .int .i64 0, .int .i64 0, .int .i64 0, .int .i64 0, .int .i64 0, .slice none 0 0, .int .i64 0, .int .i64 0, .int .i64 0, .int .i64 0, .int .i64 0, .int .i64 0, .int .i64 0, .int .i64 0, .int .i64 0, .int .i64 0, .int .i64 0, .int .i64 0, .int .i64 0, .bool false, .int .i64 0, .int .i64 0, .int .i64 0, .int .i64 0, .int .i64 0, .int .i64 0, .int .i64 0, .int .i64 0, .int .i64 0, .int .i64 0, .int .i64 0, .int .i64 0, .int .i64 0, .int .i64 0, .int .i64 0, .int .i64 0, .int .i64 0, .int .i64 0, .int .i64 0, .int .i64 0, .int .i64 0, .bool false, .int .i64 0, .int .i64 0] 65))) := by rw [← hE]; exact Blk.new _ _ _
  have DN : Hid (Blk D 65 [.int .i64 0, .int .i64 0, .int .i64 0, .int .i64 0, .int .i64 0, .int .i64 0, .int .i64 0, .slice none 0 0, .int .i64 0, .int .i64 0, .int .i64 0, .int .i64 0, .int .i64 0, .int .i64 0, .int .i64 0, .int .i64 0, .int .i64 0, .int .i64 0, .int .i64 0, .int .i64 0, .int .i64 0, .bool false, .int .i64 0, .int .i64 0, .int .i64 0, .int .i64 0, .int .i64 0, .int .i64 0, .int .i64 0, .int .i64 0, .int .i64 0, .int .i64 0, .int .i64 0, .int .i64 0, .int .i64 0, .int .i64 0, .int .i64 0, .int .i64 0, .int .i64 0, .int .i64 0, .int .i64 0, .int .i64 0, .int .i64 0, .bool false, .int .i64 0, .int .i64 0] (w13.alloc (.cells #[.int .i64 0, .int .i64 0, .int .i64 0, .int .i64 0, .int .i64 0, .int .i64 0, .int .i64 0, .slice none 0 0, .int .i64 0, .int .i64 0, .int .i64 0, .int .i64 0, .int .i64 0, .int .i64 0, .int .i64 0, .int .i64 0, .int .i64 0, .int .i64 0, .int .i64 0, .int .i64 0, .int .i64 0, .bool false, .int .i64 0, .int .i64 0, .int .i64 0, .int .i64 0, .int .i64 0, .int .i64 0, .int .i64 0, .int .i64 0, .int .i64 0, .int .i64 0, .int .i64 0, .int .i64 0, .int .i64 0, .int .i64 0, .int .i64 0, .int .i64 0, .int .i64 0, .int .i64 0, .int .i64 0, .int .i64 0, .int .i64 0, .bool false, .int .i64 0, .int .i64 0] 65))) := D13.out.below (below_alloc _ _)
  have KN : Hid (RS bs R v s9 (w13.alloc (.cells #[.int .i64 0, .int .i64 0, .int .i64 0, .int .i64 0, .int .i64 0, .int .i64 0, .int .i64 0, .slice none 0 0, .int .i64 0, .int .i64 0, .int .i64 0, .int .i64 0, .int .i64 0, .int .i64 0, .int .i64 0, .int .i64 0, .int .i64 0, .int .i64 0, .int .i64 0, .int .i64 0, .int .i64 0, .bool false, .int .i64 0, .int .i64 0, .int .i64 0, .int .i64 0, .int .i64 0, .int .i64 0, .int .i64 0, .int .i64 0, .int .i64 0, .int .i64 0, .int .i64 0, .int .i64 0, .int .i64 0, .int .i64 0, .int .i64 0, .int .i64 0, .int .i64 0, .int .i64 0, .int .i64 0, .int .i64 0, .int .i64 0, .bool false, .int .i64 0, .int .i64 0] 65))) := K13.out.below (below_alloc _ _)
  have GN : Hid (w.grownBy (w13.alloc (.cells #[.int .i64 0, .int .i64 0, .int .i64 0, .int .i64 0, .int .i64 0, .int .i64 0, .int .i64 0, .slice none 0 0, .int .i64 0, .int .i64 0, .int .i64 0, .int .i64 0, .int .i64 0, .int .i64 0, .int .i64 0, .int .i64 0, .int .i64 0, .int .i64 0, .int .i64 0, .int .i64 0, .int .i64 0, .bool false, .int .i64 0, .int .i64 0, .int .i64 0, .int .i64 0, .int .i64 0, .int .i64 0, .int .i64 0, .int .i64 0, .int .i64 0, .int .i64 0, .int .i64 0, .int .i64 0, .int .i64 0, .int .i64 0, .int .i64 0, .int .i64 0, .int .i64 0, .int .i64 0, .int .i64 0, .int .i64 0, .int .i64 0, .bool false, .int .i64 0, .int .i64 0] 65)) (some R)) := grownBy_trans G13.out (grownBy_below (below_alloc _ _) _)
  have PN : Hid (RdS 4 (w13.alloc (.cells #[.int .i64 0, .int .i64 0, .int .i64 0, .int .i64 0, .int .i64 0, .int .i64 0, .int .i64 0, .slice none 0 0, .int .i64 0, .int .i64 0, .int .i64 0, .int .i64 0, .int .i64 0, .int .i64 0, .int .i64 0, .int .i64 0, .int .i64 0, .int .i64 0, .int .i64 0, .int .i64 0, .int .i64 0, .bool false, .int .i64 0, .int .i64 0, .int .i64 0, .int .i64 0, .int .i64 0, .int .i64 0, .int .i64 0, .int .i64 0, .int .i64 0, .int .i64 0, .int .i64 0, .int .i64 0, .int .i64 0, .int .i64 0, .int .i64 0, .int .i64 0, .int .i64 0, .int .i64 0, .int .i64 0, .int .i64 0, .int .i64 0, .bool false, .int .i64 0, .int .i64 0] 65)) (.slice a n c) (pl.map insL)) := P13.out.later (below_alloc _ _)
  have PE : Hid (∀ g, (Value.slice a n c).ownBlock = some g → w.heap.size ≤ g ∧ g < E) := by rw [← hE]; exact PB13.out
  have PD : Hid (∀ g, (Value.slice a n c).ownBlock = some g → ¬ g = D) := PND.out
  clear D13 K13 G13 P13 PB13 PND
  go_upto_region 3 with (first
    | ((with_reducible refine at_build 65 ?_); refine step_build12 rfl 65 _ _ _ _ _ _ _ _ _ _ _ _ rfl _ _ _ _ _ _ _ _ _ _ _ _ rfl rfl rfl rfl rfl rfl rfl rfl rfl rfl rfl rfl (.agg (lnL ⟨id, tm, pl, bk, cd.1, cd.2.1, cd.2.2, [d0, d1, d2], la, hl, [e0, e1]⟩ (.slice a n c)).toArray) (run_build _ _ _ _ (built_ln id tm a n c pl bk cd d0 d1 d2 la hl e0 e1)) ?_)
    | ((with_reducible refine at_store ?_); (try rw [hE]); refine step_store rfl 65 _ _ rfl E 0 65 [.int .i64 0, .int .i64 0, .int .i64 0, .int .i64 0, .int .i64 0, .int .i64 0, .int .i64 0, .slice none 0 0, .int .i64 0, .int .i64 0, .int .i64 0, .int .i64 0, .int .i64 0, .int .i64 0, .int .i64 0, .int .i64 0, .int .i64 0, .int .i64 0, .int .i64 0, .int .i64 0, .int .i64 0, .bool false, .int .i64 0, .int .i64 0, .int .i64 0, .int .i64 0, .int .i64 0, .int .i64 0, .int .i64 0, .int .i64 0, .int .i64 0, .int .i64 0, .int .i64 0, .int .i64 0, .int .i64 0, .int .i64 0, .int .i64 0, .int .i64 0, .int .i64 0, .int .i64 0, .int .i64 0, .int .i64 0, .int .i64 0, .bool false, .int .i64 0, .int .i64 0] (lnL ⟨id, tm, pl, bk, cd.1, cd.2.1, cd.2.2, [d0, d1, d2], la, hl, [e0, e1]⟩ (.slice a n c)) rfl rfl EN.out (by show 0 + 46 ≤ 46; omega) (szLn rfl) (lnL_one rfl).2 ?_; intro w9 nb gb; rw [store_all (by rfl)] at nb))
  have B9 : Hid (Blk E 65 (lnL ⟨id, tm, pl, bk, cd.1, cd.2.1, cd.2.2, [d0, d1, d2], la, hl, [e0, e1]⟩ (.slice a n c)) w9) := nb
  have D9 : Hid (Blk D 65 [.int .i64 0, .int .i64 0, .int .i64 0, .int .i64 0, .int .i64 0, .int .i64 0, .int .i64 0, .slice none 0 0, .int .i64 0, .int .i64 0, .int .i64 0, .int .i64 0, .int .i64 0, .int .i64 0, .int .i64 0, .int .i64 0, .int .i64 0, .int .i64 0, .int .i64 0, .int .i64 0, .int .i64 0, .bool false, .int .i64 0, .int .i64 0, .int .i64 0, .int .i64 0, .int .i64 0, .int .i64 0, .int .i64 0, .int .i64 0, .int .i64 0, .int .i64 0, .int .i64 0, .int .i64 0, .int .i64 0, .int .i64 0, .int .i64 0, .int .i64 0, .int .i64 0, .int .i64 0, .int .i64 0, .int .i64 0, .int .i64 0, .bool false, .int .i64 0, .int .i64 0] w9) := DN.out.grown gb (fun e => DE.out e.symm)
  have K9 : Hid (RS bs R v s9 w9) := KN.out.other gb (fun e => by have := EG.out; have := LD.out; omega) (fun h0 e => DW.out _ (by have := EG.out; have := HD.out; omega) h0 e)
  have G9 : Hid (w.grownBy w9 (some R)) := grown_more GN.out gb (by have := EG.out; have := HD.out; omega)
  have P9 : Hid (RdS 4 w9 (.slice a n c) (pl.map insL)) := PN.out.grown gb (fun z hz e => by have := PE.out z hz; injection e with e; omega)
  have PB9 : Hid (E < w9.heap.size) := B9.out.lt
  clear nb gb EN DN KN GN PN
  obtain ⟨y, y1, hy⟩ := K9.out.c1
  have Y1 : Hid (∀ w', RS bs R v s9 w' → w'.cell? ⟨R, 1, none⟩ = some (.int .i64 y) → w'.cell? ⟨R, 2, none⟩ = some (.bool s9.isNone)) := fun w' h _ => h.c2
  have HY : Hid (∀ q, s9 = some q → y = (q : Int)) := hy
  obtain ⟨nb, hnb⟩ : ∃ b, s9.isNone = b := ⟨_, rfl⟩
  have NB : Hid (s9.isSome = !nb) := by show _ = _; rw [← hnb]; cases s9 <;> rfl
  have y2 : w9.cell? ⟨R, 2, none⟩ = some (.bool nb) := by rw [← hnb]; exact K9.out.c2
  clear hnb hy Y1
  refine wp_region_held_drew (S := fun w' => w'.cell? ⟨R, 1, none⟩ = some (.int .i64 y) ∧ w'.cell? ⟨R, 2, none⟩ = some (.bool nb) ∧ Blk E 65 (lnL ⟨id, tm, pl, bk, cd.1, cd.2.1, cd.2.2, [d0, d1, d2], la, hl, [e0, e1]⟩ (.slice a n c)) w') (by kernel_rfl) ⟨y1, y2, B9.out.drewN 1⟩ (fun hH => ?_)
  refine wpAnyH_take (i := 0) (oi := { dst := some 41, op := Op.load 65 (Operand.tmp 9), type := 65, pos := "reader.go:99", after := #[], guard := none }) (v := .agg (lnL ⟨id, tm, pl, bk, cd.1, cd.2.1, cd.2.2, [d0, d1, d2], la, hl, [e0, e1]⟩ (.slice a n c)).toArray) rfl (by kernel_rfl) (by kernel_rfl) (by kernel_rfl) (fun _ _ _ h => h) (yieldsIf_load_mid (by rfl) _ _ rfl E 0 rfl (lnL ⟨id, tm, pl, bk, cd.1, cd.2.1, cd.2.2, [d0, d1, d2], la, hl, [e0, e1]⟩ (.slice a n c)) _ (fun w' h => Blk.all h.2.2) huT rfl (szLn rfl)) hH ?_
  try simp only [Act.put, List.setIfInBounds_toArray, List.set_cons_zero, List.set_cons_succ]
  refine wpAnyH_take (i := 1) (oi := { dst := some 42, op := Op.move (Operand.tmp 0), type := 129, pos := "reader.go:99", after := #[{ on := 10, ground := Ground.gcOnly Departure.lateStores }], guard := none }) (v := .pointer (some ⟨R, 0, none⟩)) rfl (by kernel_rfl) (by kernel_rfl) (by kernel_rfl) (fun _ _ _ h => h) (Or.inl ⟨by rfl, fun w' h => by go_simp⟩) hH ?_
  try simp only [Act.put, List.setIfInBounds_toArray, List.set_cons_zero, List.set_cons_succ]
  refine wpAnyH_take (i := 2) (oi := { dst := some 43, op := Op.nilCheck (Operand.tmp 42), type := 0, pos := "reader.go:99", after := #[{ on := 1, ground := Ground.data }, { on := 10, ground := Ground.gcOnly Departure.lateStores }], guard := none }) (v := .pointer (some ⟨R, 0, none⟩)) rfl (by kernel_rfl) (by kernel_rfl) (by kernel_rfl) (fun _ _ _ h => h) (Or.inl ⟨by rfl, fun w' h => by go_simp⟩) hH ?_
  try simp only [Act.put, List.setIfInBounds_toArray, List.set_cons_zero, List.set_cons_succ]
  refine wpAnyH_take (i := 3) (oi := { dst := some 44, op := Op.fieldAddr 92 (Operand.tmp 43) 1, type := 0, pos := "reader.go:99", after := #[{ on := 2, ground := Ground.data }, { on := 10, ground := Ground.gcOnly Departure.lateStores }], guard := none }) (v := .pointer (some ⟨R, 1, none⟩)) rfl (by kernel_rfl) (by kernel_rfl) (by kernel_rfl) (fun _ _ _ h => h) (Or.inl ⟨by rfl, fun w' h => by go_simp⟩) hH ?_
  try simp only [Act.put, List.setIfInBounds_toArray, List.set_cons_zero, List.set_cons_succ]
  refine wpAnyH_take (i := 4) (oi := { dst := some 45, op := Op.load 3 (Operand.tmp 44), type := 3, pos := "reader.go:99", after := #[{ on := 3, ground := Ground.data }, { on := 10, ground := Ground.gcOnly Departure.lateStores }], guard := none }) (v := .int .i64 y) rfl (by kernel_rfl) (by kernel_rfl) (by kernel_rfl) (fun _ _ _ h => h) (Or.inl ⟨by rfl, fun w' h => by have q := h.1; go_simp⟩) hH ?_
  try simp only [Act.put, List.setIfInBounds_toArray, List.set_cons_zero, List.set_cons_succ]
  refine wpAnyH_take (i := 5) (oi := { dst := some 46, op := Op.move (Operand.tmp 0), type := 129, pos := "reader.go:99", after := #[{ on := 11, ground := Ground.gcOnly Departure.lateStores }], guard := none }) (v := .pointer (some ⟨R, 0, none⟩)) rfl (by kernel_rfl) (by kernel_rfl) (by kernel_rfl) (fun _ _ _ h => h) (Or.inl ⟨by rfl, fun w' h => by go_simp⟩) hH ?_
  try simp only [Act.put, List.setIfInBounds_toArray, List.set_cons_zero, List.set_cons_succ]
  refine wpAnyH_take (i := 6) (oi := { dst := some 47, op := Op.nilCheck (Operand.tmp 46), type := 0, pos := "reader.go:99", after := #[{ on := 5, ground := Ground.data }, { on := 11, ground := Ground.gcOnly Departure.lateStores }], guard := none }) (v := .pointer (some ⟨R, 0, none⟩)) rfl (by kernel_rfl) (by kernel_rfl) (by kernel_rfl) (fun _ _ _ h => h) (Or.inl ⟨by rfl, fun w' h => by go_simp⟩) hH ?_
  try simp only [Act.put, List.setIfInBounds_toArray, List.set_cons_zero, List.set_cons_succ]
  refine wpAnyH_take (i := 7) (oi := { dst := some 48, op := Op.fieldAddr 92 (Operand.tmp 47) 2, type := 0, pos := "reader.go:99", after := #[{ on := 6, ground := Ground.data }, { on := 11, ground := Ground.gcOnly Departure.lateStores }], guard := none }) (v := .pointer (some ⟨R, 2, none⟩)) rfl (by kernel_rfl) (by kernel_rfl) (by kernel_rfl) (fun _ _ _ h => h) (Or.inl ⟨by rfl, fun w' h => by go_simp⟩) hH ?_
  try simp only [Act.put, List.setIfInBounds_toArray, List.set_cons_zero, List.set_cons_succ]
  refine wpAnyH_take (i := 8) (oi := { dst := some 49, op := Op.load 4 (Operand.tmp 48), type := 4, pos := "reader.go:99", after := #[{ on := 7, ground := Ground.data }, { on := 11, ground := Ground.gcOnly Departure.lateStores }], guard := none }) (v := .bool nb) rfl (by kernel_rfl) (by kernel_rfl) (by kernel_rfl) (fun _ _ _ h => h) (Or.inl ⟨by rfl, fun w' h => by have q := h.2.1; go_simp⟩) hH ?_
  try simp only [Act.put, List.setIfInBounds_toArray, List.set_cons_zero, List.set_cons_succ]
  refine wpAnyH_take (i := 9) (oi := { dst := some 50, op := Op.unOp UnOp.not 4 (Operand.tmp 49), type := 4, pos := "reader.go:99", after := #[{ on := 8, ground := Ground.data }, { on := 11, ground := Ground.gcOnly Departure.lateStores }], guard := none }) (v := .bool (!nb)) rfl (by kernel_rfl) (by kernel_rfl) (by kernel_rfl) (fun _ _ _ h => h) (Or.inl ⟨by rfl, fun w' h => by go_simp⟩) hH ?_
  try simp only [Act.put, List.setIfInBounds_toArray, List.set_cons_zero, List.set_cons_succ]
  refine wpAnyH_ready (rs := [10]) (by kernel_rfl) (by simp) ?_
  refine AllReadyH.cons (o := { dst := none, op := Op.store 65 (Operand.tmp 6) (Operand.tmp 41), type := 0, pos := "reader.go:99", after := #[{ on := 0, ground := Ground.data }, { on := 0, ground := Ground.phase }, { on := 1, ground := Ground.textOnly Departure.lateStores }, { on := 2, ground := Ground.textOnly Departure.lateStores }, { on := 3, ground := Ground.textOnly Departure.lateStores }, { on := 4, ground := Ground.textOnly Departure.lateStores }, { on := 5, ground := Ground.textOnly Departure.lateStores }, { on := 6, ground := Ground.textOnly Departure.lateStores }, { on := 7, ground := Ground.textOnly Departure.lateStores }, { on := 8, ground := Ground.textOnly Departure.lateStores }, { on := 9, ground := Ground.textOnly Departure.lateStores }], guard := none }) rfl (fun Kx hK => ?_) AllReadyH.nil
  refine op_putS (zs := [.int .i64 0, .int .i64 0, .int .i64 0, .int .i64 0, .int .i64 0, .int .i64 0, .int .i64 0, .slice none 0 0, .int .i64 0, .int .i64 0, .int .i64 0, .int .i64 0, .int .i64 0, .int .i64 0, .int .i64 0, .int .i64 0, .int .i64 0, .int .i64 0, .int .i64 0, .int .i64 0, .int .i64 0, .bool false, .int .i64 0, .int .i64 0, .int .i64 0, .int .i64 0, .int .i64 0, .int .i64 0, .int .i64 0, .int .i64 0, .int .i64 0, .int .i64 0, .int .i64 0, .int .i64 0, .int .i64 0, .int .i64 0, .int .i64 0, .int .i64 0, .int .i64 0, .int .i64 0, .int .i64 0, .int .i64 0, .int .i64 0, .bool false, .int .i64 0, .int .i64 0]) (lnL ⟨id, tm, pl, bk, cd.1, cd.2.1, cd.2.2, [d0, d1, d2], la, hl, [e0, e1]⟩ (.slice a n c)) rfl (szLn rfl) (lnL_one rfl).2 rfl _ _ rfl D rfl rfl (D9.out.drewN 1) ?_
  intro w10 b10 g10
  have K10 : Hid (RS bs R v s9 w10) := (K9.out.drewN 1).other g10 (fun e => RD.out e.symm) (fun h0 e => DV.out h0 e)
  have B10 : Hid (Blk E 65 (lnL ⟨id, tm, pl, bk, cd.1, cd.2.1, cd.2.2, [d0, d1, d2], la, hl, [e0, e1]⟩ (.slice a n c)) w10) := (B9.out.drewN 1).grown g10 (fun e => DE.out e)
  have G10 : Hid (w.grownBy w10 (some R)) := grown_more (grownBy_drewN G9.out 1) g10 (by rw [HD.out]; exact Nat.le_refl _)
  have N10 : Hid (Blk D 65 (lnL ⟨id, tm, pl, bk, cd.1, cd.2.1, cd.2.2, [d0, d1, d2], la, hl, [e0, e1]⟩ (.slice a n c)) w10) := b10
  have q1 : w10.cell? ⟨R, 1, none⟩ = some (.int .i64 y) := (World.cell?_of_block (a := ⟨R, 1, none⟩) (g10.block R (K9.out.lt) (fun e => RD.out (by injection e)))).trans y1
  have q2 : w10.cell? ⟨R, 2, none⟩ = some (.bool nb) := (World.cell?_of_block (a := ⟨R, 2, none⟩) (g10.block R (K9.out.lt) (fun e => RD.out (by injection e)))).trans y2
  refine hK.out _ _ ⟨q1, q2, B10.out⟩ (fun hH => ?_)
  try simp only [Act.put]
  refine wpAnyH_take (i := 11) (oi := { dst := some 7, op := Op.assign (Operand.tmp 45), type := 3, pos := "reader.go:99", after := #[{ on := 4, ground := Ground.data }, { on := 10, ground := Ground.chain }, { on := 0, ground := Ground.phase }, { on := 1, ground := Ground.phase }, { on := 2, ground := Ground.phase }, { on := 3, ground := Ground.phase }, { on := 4, ground := Ground.phase }, { on := 5, ground := Ground.textOnly Departure.lateStores }, { on := 6, ground := Ground.textOnly Departure.lateStores }, { on := 7, ground := Ground.textOnly Departure.lateStores }, { on := 8, ground := Ground.textOnly Departure.lateStores }, { on := 9, ground := Ground.textOnly Departure.lateStores }, { on := 10, ground := Ground.phase }], guard := none }) (v := .int .i64 y) rfl (by kernel_rfl) (by kernel_rfl) (by kernel_rfl) (fun _ _ _ h => h) (Or.inl ⟨by rfl, fun w' h => by go_simp⟩) hH ?_
  try simp only [Act.put, List.setIfInBounds_toArray, List.set_cons_zero, List.set_cons_succ]
  refine wpAnyH_take (i := 12) (oi := { dst := some 8, op := Op.assign (Operand.tmp 50), type := 4, pos := "reader.go:99", after := #[{ on := 9, ground := Ground.data }, { on := 11, ground := Ground.chain }, { on := 0, ground := Ground.phase }, { on := 1, ground := Ground.phase }, { on := 2, ground := Ground.phase }, { on := 3, ground := Ground.phase }, { on := 4, ground := Ground.phase }, { on := 5, ground := Ground.phase }, { on := 6, ground := Ground.phase }, { on := 7, ground := Ground.phase }, { on := 8, ground := Ground.phase }, { on := 9, ground := Ground.phase }, { on := 10, ground := Ground.phase }, { on := 11, ground := Ground.phase }], guard := none }) (v := .bool (!nb)) rfl (by kernel_rfl) (by kernel_rfl) (by kernel_rfl) (fun _ _ _ h => h) (Or.inl ⟨by rfl, fun w' h => by go_simp⟩) hH ?_
  try simp only [Act.put, List.setIfInBounds_toArray, List.set_cons_zero, List.set_cons_succ]
  refine wpAnyH_done (by kernel_rfl) ?_ _
  have P10 : Hid (RdS 4 w10 (.slice a n c) (pl.map insL)) := (show RdS 4 (w9.drewN 1) (.slice a n c) (pl.map insL) from P9.out).grown g10 (fun z hz e => by have := PD.out z hz; injection e with e; omega)
  have S10 : Hid (E < w10.heap.size) := B10.out.lt
  clear hH hK b10 g10 q1 q2 y1 y2 B9 D9 P9
  go_wp2_with fail
  refine bodyPost_cell_tmp2 rfl rfl D 65 (lnL ⟨id, tm, pl, bk, cd.1, cd.2.1, cd.2.2, [d0, d1, d2], la, hl, [e0, e1]⟩ (.slice a n c)).toArray (0, 0) _ rfl N10.out Try.underlying65 rfl (by simpa using szLn (C := lnL ⟨id, tm, pl, bk, cd.1, cd.2.1, cd.2.2, [d0, d1, d2], la, hl, [e0, e1]⟩ (.slice a n c)) rfl) ⟨⟨id, tm, pl, bk, cd.1, cd.2.1, cd.2.2, [d0, d1, d2], la, hl, [e0, e1]⟩, a, n, c, y, s9, ?_, HY.out, K10.out, G10.out, P10.out, (fun g hg => by have := PE.out g hg; have := S10.out; omega), GT.out⟩
  rw [NB.out]; rfl
end Go.Proofs.Ytdbjjeaflfoppaa
