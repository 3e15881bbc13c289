/-
  Ours: the reader's state (gen_wrd7.py: THE SEAT's OWN NUMBERS); what a value read holds in memory.
-/
import Derived.Test.YtdbjjeaflfoppaaWirRd6
namespace Go.Proofs.Ytdbjjeaflfoppaa
open Go.RowKit WsM

theorem po_got {bs : List Nat} {p : Nat} {s1 s2 s3 : Option Nat} {td : Int} {ls : List Ln} {ns : List Nt} (g1 : Got putI I64 bs p s1 td) (g2 : Stg (lsB lnB) (fun xs => ∀ x ∈ xs, Ln.Ok x) bs s1 s2 ls) (g3 : Stg (lsB owB) (fun xs => ∀ x ∈ xs, Nt.Ok x) bs s2 s3 ns) : Got poB Po.Ok bs p s3 ⟨td, ls, ns⟩ := by
  have pl : Pin (fun xs : List Ln => ∀ x ∈ xs, x.Ok) (lsB lnB) := list_pin ln_pin
  have h2 := fun q (hq : s1 = some q) => Got.seq pl (g2.2 q hq) g3.2 g3.1
  have h1 := Got.seq putI_pinP g1 h2 (fun e => g3.1 (g2.1 e))
  refine Got.iso (g := poB) (OB := Po.Ok) (fun a : Int × (List Ln × List Nt) => (⟨a.1, a.2.1, a.2.2⟩ : Po)) ?_ (fun p op => ⟨(p.td, (p.ls, p.ns)), ⟨op.td _ (by simp), op.ls, op.ns⟩, rfl⟩) (fun a oa => ⟨fun z hz => by simp at hz; rw [hz]; exact oa.1, oa.2.1, oa.2.2⟩) h1
  intro a; rfl
/-- The memory of a value that was read: all in blocks from wb to ub. -/
def MemN (_ _ : Nat) (x : Nt) (C : List Value) (_ : World) : Prop := C = ntL x
def MemL (wb ub : Nat) (x : Ln) (C : List Value) (w : World) : Prop := ∃ a n c, C = lnL x (.slice a n c) ∧ RdS 4 w (.slice a n c) (x.pl.map insL) ∧ ∀ g, (Value.slice a n c).ownBlock = some g → wb ≤ g ∧ g < ub
def MemP (wb ub : Nat) (x : Po) (C : List Value) (w : World) : Prop := ∃ a n c b m d pvs, C = [.int .i64 x.td, .slice a n c, .slice b m d] ∧ TwI wb w (.slice a n c) x.ls pvs ∧ (∀ g, (Value.slice a n c).ownBlock = some g → g < ub) ∧ (∀ i, i < x.ls.length → ∀ g, (pvs.getD i .nilFunc).ownBlock = some g → g < ub) ∧ RdS 6 w (.slice b m d) (x.ns.map ntL) ∧ ∀ g, (Value.slice b m d).ownBlock = some g → wb ≤ g ∧ g < ub
theorem MemN.grown {wb ub E : Nat} {x : Nt} {C : List Value} {w w' : World} (h : MemN wb ub x C w) (_ : w.grownBy w' (some E)) (_ : E < wb ∨ ub ≤ E) : MemN wb ub x C w' := h
theorem MemN.later {wb ub : Nat} {x : Nt} {C : List Value} {w w' : World} (h : MemN wb ub x C w) (_ : Below w.heap.size w w') : MemN wb ub x C w' := h
theorem MemN.mono {wb wb' ub ub' : Nat} {x : Nt} {C : List Value} {w : World} (h : MemN wb ub x C w) (_ : wb' ≤ wb) (_ : ub ≤ ub') : MemN wb' ub' x C w := h
theorem MemL.grown {wb ub E : Nat} {x : Ln} {C : List Value} {w w' : World} (h : MemL wb ub x C w) (g : w.grownBy w' (some E)) (hE : E < wb ∨ ub ≤ E) : MemL wb ub x C w' := by
  obtain ⟨a, n, c, e, r, b⟩ := h
  exact ⟨a, n, c, e, r.grown g (fun z hz e => by have := b z hz; injection e with e; omega), b⟩
theorem MemL.later {wb ub : Nat} {x : Ln} {C : List Value} {w w' : World} (h : MemL wb ub x C w) (g : Below w.heap.size w w') : MemL wb ub x C w' := by
  obtain ⟨a, n, c, e, r, b⟩ := h
  exact ⟨a, n, c, e, r.later g, b⟩
theorem MemL.mono {wb wb' ub ub' : Nat} {x : Ln} {C : List Value} {w : World} (h : MemL wb ub x C w) (h1 : wb' ≤ wb) (h2 : ub ≤ ub') : MemL wb' ub' x C w := by
  obtain ⟨a, n, c, e, r, b⟩ := h
  exact ⟨a, n, c, e, r, fun g hg => by have := b g hg; omega⟩
theorem MemP.grown {wb ub E : Nat} {x : Po} {C : List Value} {w w' : World} (h : MemP wb ub x C w) (g : w.grownBy w' (some E)) (hE : E < wb ∨ ub ≤ E) : MemP wb ub x C w' := by
  obtain ⟨a, n, c, b, m, d, pvs, e, t, l1, l2, r, k⟩ := h
  exact ⟨a, n, c, b, m, d, pvs, e, t.apart g (fun z hz e => by have := t.new z hz; have := l1 z hz; omega) (fun i hi z hz e => by have := t.pn i hi z hz; have := l2 i hi z hz; omega), l1, l2, r.grown g (fun z hz e => by have := k z hz; injection e with e; omega), k⟩
theorem MemP.later {wb ub : Nat} {x : Po} {C : List Value} {w w' : World} (h : MemP wb ub x C w) (g : Below w.heap.size w w') : MemP wb ub x C w' := by
  obtain ⟨a, n, c, b, m, d, pvs, e, t, l1, l2, r, k⟩ := h
  exact ⟨a, n, c, b, m, d, pvs, e, t.below g, l1, l2, r.later g, k⟩
theorem MemP.mono {wb wb' ub ub' : Nat} {x : Po} {C : List Value} {w : World} (h : MemP wb ub x C w) (h1 : wb' ≤ wb) (h2 : ub ≤ ub') : MemP wb' ub' x C w := by
  obtain ⟨a, n, c, b, m, d, pvs, e, t, l1, l2, r, k⟩ := h
  exact ⟨a, n, c, b, m, d, pvs, e, t.mono h1, fun g hg => by have := l1 g hg; omega, fun i hi g hg => by have := l2 i hi g hg; omega, r, fun g hg => by have := k g hg; omega⟩
/-- What a reader of a whole value answers. -/
def GetAns {α : Type} (Mem : Nat → Nat → α → List Value → World → Prop) (K : Nat) (f : α → List Nat) (Ok : α → Prop) (bs : List Nat) (R : Nat) (p : Nat) (w : World) (e : Ending) (w' : World) : Prop :=
  ∃ (x : α) (C : List Value) (y : Int) (st' : Option Nat), e = .returned (.tuple #[.agg C.toArray, .int .i64 y, .bool st'.isSome]) ∧ (∀ q, st' = some q → y = (q : Int)) ∧ w.grownBy w' (some R) ∧ C.length = K ∧ (∀ u ∈ C, u.oneCell' = true) ∧ Mem w.heap.size w'.heap.size x C w' ∧ Got f Ok bs p st' x
set_option maxRecDepth 40000 in
set_option maxHeartbeats 8000000 in
theorem state_at (bs : List Nat) (hb : ∀ c ∈ bs, c < 256) (hl : bs.length ≤ 100000000000) (R : Nat) (v : Value) (p : Nat) (w : World) (h : Seeks bs R v p w) :
    Calls Try.prog 62 #[.pointer (some ⟨R, 0, none⟩), v, .int .i64 (p : Int)] w (GetAns MemP 3 poB Po.Ok bs R p w) := by
  have CI : Hid (∀ W s, RS bs R v s W → Calls Try.prog 74 #[.pointer (some ⟨R, 0, none⟩)] W fun e w' => ∃ n s', e = .returned (.int .i64 n) ∧ tkI bs s = (n, s') ∧ RS bs R v s' w' ∧ W.grownBy w' (some R)) := fun W s hs => (number_at bs hb (by omega) R v s W hs).mono fun e w' ⟨h1, h2, h3⟩ => ⟨_, _, h1, rfl, h2, h3⟩
  have CL : Hid (∀ W s, RS bs R v s W → Calls Try.prog 83 #[.pointer (some ⟨R, 0, none⟩), .func (.func 54) #[.pointer (some ⟨R, 0, none⟩)] #[]] W (TlAns bs R v s W)) := fun W s hs => takeListLn_at bs hb hl R v s W hs
  have CN : Hid (∀ W s, RS bs R v s W → Calls Try.prog 84 #[.pointer (some ⟨R, 0, none⟩), .func (.func 85) #[.pointer (some ⟨R, 0, none⟩)] #[]] W (TkAns 6 ntL owB Nt.Ok bs R v s W)) := fun W s hs => takeListNt_at bs hb (by omega) R v s W hs
  have hmf : ∀ (fn : Fn) (first cap : Array Value) (w : World), (Instr.makeFunc fn first cap).run Try.prog w = .ok (.func fn first cap) w := fun _ _ _ _ => rfl
  have HB : Hid (∀ c ∈ bs, c < 256) := hb
  obtain ⟨hR, hV, hS⟩ := h
  have SK : Hid (∀ W, Below w.heap.size w W → Calls Try.prog 68 #[.pointer (some ⟨R, 0, none⟩), v, .int .i64 (p : Int)] W fun e w' => e = .returned (.tuple #[]) ∧ RS bs R v (some p) w' ∧ W.grownBy w' (some R)) := hS
  have DV : Hid (0 < bs.length → v.ownBlock = some w.heap.size → False) := fun h0 e => by have := hV h0 _ e; omega
  have DW : Hid (∀ g, w.heap.size ≤ g → 0 < bs.length → v.ownBlock = some g → False) := fun g hg h0 e => by have := hV h0 _ e; omega
  have B0 : Hid (Blk w.heap.size 32 [.int .i64 0, .slice none 0 0, .slice none 0 0] (w.alloc (.cells #[.int .i64 0, .slice none 0 0, .slice none 0 0] 32))) := Blk.new _ _ _
  have BW : Hid (Below w.heap.size w (w.alloc (.cells #[.int .i64 0, .slice none 0 0, .slice none 0 0] 32))) := below_alloc _ _
  have huT := Try.underlying32
  clear hb hl hV hS
  go_enter Try.func62, Try.ntmps62
  go_upto_region 1 with fail
  generalize w.alloc (.cells #[.int .i64 0, .slice none 0 0, .slice none 0 0] 32) = W0 at *
  obtain ⟨D, hD⟩ : ∃ D, w.heap.size = D := ⟨_, rfl⟩
  have HD : Hid (w.heap.size = D) := hD
  rw [hD] at B0 DV ⊢
  have RD : Hid (R ≠ D) := by show _ ≠ _; omega
  have LD : Hid (R < D) := by show _ < _; omega
  clear hD hR
  go_wp2_with fail
  refine (SK.out _ BW.out).mono ?_
  rintro e w1 ⟨rfl, k, g⟩
  have K1 : Hid (RS bs R v (some p) w1) := k
  have D1 : Hid (Blk D 32 [.int .i64 0, .slice none 0 0, .slice none 0 0] w1) := B0.out.grown g RD.out
  have G1 : Hid (w.grownBy w1 (some R)) := grownBy_trans (grownBy_below BW.out _) g
  have HPP : Hid (p ≤ bs.length) := k.le p rfl
  clear k g B0 BW SK
  go_wp2_with fail
  refine (CI.out _ _ K1.out).mono ?_
  rintro e w2 ⟨td, t1, rfl, eqx, k, g⟩
  have E0 : Hid (tkI bs (some p) = (td, t1)) := eqx
  have K2 : Hid (RS bs R v t1 w2) := k
  have D2 : Hid (Blk D 32 [.int .i64 0, .slice none 0 0, .slice none 0 0] w2) := D1.out.grown g RD.out
  have G2 : Hid (w.grownBy w2 (some R)) := grownBy_trans G1.out g
  clear k g eqx K1 D1 G1
  go_wp2_with fail
  refine (CL.out _ _ K2.out).mono ?_
  rintro e w3 ⟨a, n, c, ls, pvs, t2, rfl, tw, k, g, sg⟩
  have E1 : Hid (Stg (lsB lnB) (fun xs => ∀ x ∈ xs, Ln.Ok x) bs t1 t2 ls) := sg
  have K3 : Hid (RS bs R v t2 w3) := k
  have D3 : Hid (Blk D 32 [.int .i64 0, .slice none 0 0, .slice none 0 0] w3) := D2.out.grown g RD.out
  have G3 : Hid (w.grownBy w3 (some R)) := grownBy_trans G2.out g
  have T3 : Hid (TwI (D + 1) w3 (.slice a n c) ls pvs) := tw.mono D2.out.lt
  clear k g sg tw K2 D2 G2
  go_wp2_with fail
  refine (CN.out _ _ K3.out).mono ?_
  rintro e w4 ⟨b, m, d, ns, s9, rfl, rn, bn, k, g, gn, gt⟩
  have E2 : Hid (Stg (lsB owB) (fun xs => ∀ x ∈ xs, Nt.Ok x) bs t2 s9 ns) := ⟨gn, gt⟩
  have K4 : Hid (RS bs R v s9 w4) := k
  have D4 : Hid (Blk D 32 [.int .i64 0, .slice none 0 0, .slice none 0 0] w4) := D3.out.grown g RD.out
  have G4 : Hid (w.grownBy w4 (some R)) := grownBy_trans G3.out g
  have M4 : Hid (MemP (D + 1) w4.heap.size ⟨td, ls, ns⟩ [.int .i64 td, .slice a n c, .slice b m d] w4) := by
    have t4 := T3.out.row_grown g (by have := LD.out; omega)
    exact ⟨a, n, c, b, m, d, pvs, rfl, t4, t4.lt, t4.pb, rn, fun z hz => by have := bn z hz; have := D3.out.lt; omega⟩
  clear k g gn gt rn bn K3 D3 G3 T3
  have GT : Hid (Got poB Po.Ok bs p s9 ⟨td, ls, ns⟩) := by
    have q0 := tkI_got HB.out HPP.out
    rw [E0.out] at q0
    exact po_got q0 E1.out E2.out
  clear CI CL CN E0 E1 E2 HB
  obtain ⟨E, hE⟩ : ∃ E, w4.heap.size = E := ⟨_, rfl⟩
  have EG : Hid (D < E) := by show _ < _; rw [← hE]; exact D4.out.lt
  have DE : Hid (¬ D = E) := by show ¬ _; have := EG.out; omega
  have EN : Hid (Blk E 32 [.int .i64 0, .slice none 0 0, .slice none 0 0] (w4.alloc (.cells #[.int .i64 0, .slice none 0 0, .slice none 0 0] 32))) := by rw [← hE]; exact Blk.new _ _ _
  have DN : Hid (Blk D 32 [.int .i64 0, .slice none 0 0, .slice none 0 0] (w4.alloc (.cells #[.int .i64 0, .slice none 0 0, .slice none 0 0] 32))) := D4.out.below (below_alloc _ _)
  have KN : Hid (RS bs R v s9 (w4.alloc (.cells #[.int .i64 0, .slice none 0 0, .slice none 0 0] 32))) := K4.out.below (below_alloc _ _)
  have GN : Hid (w.grownBy (w4.alloc (.cells #[.int .i64 0, .slice none 0 0, .slice none 0 0] 32)) (some R)) := grownBy_trans G4.out (grownBy_below (below_alloc _ _) _)
  have MN : Hid (MemP (D + 1) E ⟨td, ls, ns⟩ [.int .i64 td, .slice a n c, .slice b m d] (w4.alloc (.cells #[.int .i64 0, .slice none 0 0, .slice none 0 0] 32))) := by rw [← hE]; exact M4.out.later (below_alloc _ _)
  clear D4 K4 G4 M4
  go_upto_region 3 with ((with_reducible refine at_store ?_); (try rw [hE]); refine step_store rfl 32 _ _ rfl E 0 32 [.int .i64 0, .slice none 0 0, .slice none 0 0] [.int .i64 td, .slice a n c, .slice b m d] rfl rfl EN.out (by show 0 + 3 ≤ 3; omega) (sz3 _ _ _) (fun u hu => by simp at hu; rcases hu with rfl | rfl | rfl <;> rfl) ?_; intro w9 nb gb; rw [store_all (by rfl)] at nb)
  have B9 : Hid (Blk E 32 [.int .i64 td, .slice a n c, .slice b m d] w9) := nb
  have D9 : Hid (Blk D 32 [.int .i64 0, .slice none 0 0, .slice none 0 0] w9) := DN.out.grown gb (fun e => DE.out e.symm)
  have K9 : Hid (RS bs R v s9 w9) := KN.out.other gb (fun e => by have := EG.out; have := LD.out; omega) (fun h0 e => DW.out _ (by have := EG.out; have := HD.out; omega) h0 e)
  have G9 : Hid (w.grownBy w9 (some R)) := grown_more GN.out gb (by have := EG.out; have := HD.out; omega)
  have M9 : Hid (MemP (D + 1) E ⟨td, ls, ns⟩ [.int .i64 td, .slice a n c, .slice b m d] w9) := MN.out.grown gb (.inr (Nat.le_refl _))
  clear nb gb EN DN KN GN MN
  obtain ⟨y, y1, hy⟩ := K9.out.c1
  have Y1 : Hid (∀ w', RS bs R v s9 w' → w'.cell? ⟨R, 1, none⟩ = some (.int .i64 y) → w'.cell? ⟨R, 2, none⟩ = some (.bool s9.isNone)) := fun w' h _ => h.c2
  have HY : Hid (∀ q, s9 = some q → y = (q : Int)) := hy
  obtain ⟨nb, hnb⟩ : ∃ b, s9.isNone = b := ⟨_, rfl⟩
  have NB : Hid (s9.isSome = !nb) := by show _ = _; rw [← hnb]; cases s9 <;> rfl
  have y2 : w9.cell? ⟨R, 2, none⟩ = some (.bool nb) := by rw [← hnb]; exact K9.out.c2
  clear hnb hy Y1
  refine wp_region_held_drew (S := fun w' => w'.cell? ⟨R, 1, none⟩ = some (.int .i64 y) ∧ w'.cell? ⟨R, 2, none⟩ = some (.bool nb) ∧ Blk E 32 ([.int .i64 td, .slice a n c, .slice b m d]) w') (by kernel_rfl) ⟨y1, y2, B9.out.drewN 1⟩ (fun hH => ?_)
  refine wpAnyH_take (i := 0) (oi := { dst := some 25, op := Op.load 32 (Operand.tmp 9), type := 32, pos := "reader.go:109", after := #[], guard := none }) (v := .agg ([.int .i64 td, .slice a n c, .slice b m d]).toArray) rfl (by kernel_rfl) (by kernel_rfl) (by kernel_rfl) (fun _ _ _ h => h) (yieldsIf_load_mid (by rfl) _ _ rfl E 0 rfl ([.int .i64 td, .slice a n c, .slice b m d]) _ (fun w' h => Blk.all h.2.2) huT rfl (sz3 _ _ _)) hH ?_
  try simp only [Act.put, List.setIfInBounds_toArray, List.set_cons_zero, List.set_cons_succ]
  refine wpAnyH_take (i := 1) (oi := { dst := some 26, op := Op.move (Operand.tmp 0), type := 129, pos := "reader.go:109", after := #[{ on := 10, ground := Ground.gcOnly Departure.lateStores }], guard := none }) (v := .pointer (some ⟨R, 0, none⟩)) rfl (by kernel_rfl) (by kernel_rfl) (by kernel_rfl) (fun _ _ _ h => h) (Or.inl ⟨by rfl, fun w' h => by go_simp⟩) hH ?_
  try simp only [Act.put, List.setIfInBounds_toArray, List.set_cons_zero, List.set_cons_succ]
  refine wpAnyH_take (i := 2) (oi := { dst := some 27, op := Op.nilCheck (Operand.tmp 26), type := 0, pos := "reader.go:109", after := #[{ on := 1, ground := Ground.data }, { on := 10, ground := Ground.gcOnly Departure.lateStores }], guard := none }) (v := .pointer (some ⟨R, 0, none⟩)) rfl (by kernel_rfl) (by kernel_rfl) (by kernel_rfl) (fun _ _ _ h => h) (Or.inl ⟨by rfl, fun w' h => by go_simp⟩) hH ?_
  try simp only [Act.put, List.setIfInBounds_toArray, List.set_cons_zero, List.set_cons_succ]
  refine wpAnyH_take (i := 3) (oi := { dst := some 28, op := Op.fieldAddr 92 (Operand.tmp 27) 1, type := 0, pos := "reader.go:109", after := #[{ on := 2, ground := Ground.data }, { on := 10, ground := Ground.gcOnly Departure.lateStores }], guard := none }) (v := .pointer (some ⟨R, 1, none⟩)) rfl (by kernel_rfl) (by kernel_rfl) (by kernel_rfl) (fun _ _ _ h => h) (Or.inl ⟨by rfl, fun w' h => by go_simp⟩) hH ?_
  try simp only [Act.put, List.setIfInBounds_toArray, List.set_cons_zero, List.set_cons_succ]
  refine wpAnyH_take (i := 4) (oi := { dst := some 29, op := Op.load 3 (Operand.tmp 28), type := 3, pos := "reader.go:109", after := #[{ on := 3, ground := Ground.data }, { on := 10, ground := Ground.gcOnly Departure.lateStores }], guard := none }) (v := .int .i64 y) rfl (by kernel_rfl) (by kernel_rfl) (by kernel_rfl) (fun _ _ _ h => h) (Or.inl ⟨by rfl, fun w' h => by have q := h.1; go_simp⟩) hH ?_
  try simp only [Act.put, List.setIfInBounds_toArray, List.set_cons_zero, List.set_cons_succ]
  refine wpAnyH_take (i := 5) (oi := { dst := some 30, op := Op.move (Operand.tmp 0), type := 129, pos := "reader.go:109", after := #[{ on := 11, ground := Ground.gcOnly Departure.lateStores }], guard := none }) (v := .pointer (some ⟨R, 0, none⟩)) rfl (by kernel_rfl) (by kernel_rfl) (by kernel_rfl) (fun _ _ _ h => h) (Or.inl ⟨by rfl, fun w' h => by go_simp⟩) hH ?_
  try simp only [Act.put, List.setIfInBounds_toArray, List.set_cons_zero, List.set_cons_succ]
  refine wpAnyH_take (i := 6) (oi := { dst := some 31, op := Op.nilCheck (Operand.tmp 30), type := 0, pos := "reader.go:109", after := #[{ on := 5, ground := Ground.data }, { on := 11, ground := Ground.gcOnly Departure.lateStores }], guard := none }) (v := .pointer (some ⟨R, 0, none⟩)) rfl (by kernel_rfl) (by kernel_rfl) (by kernel_rfl) (fun _ _ _ h => h) (Or.inl ⟨by rfl, fun w' h => by go_simp⟩) hH ?_
  try simp only [Act.put, List.setIfInBounds_toArray, List.set_cons_zero, List.set_cons_succ]
  refine wpAnyH_take (i := 7) (oi := { dst := some 32, op := Op.fieldAddr 92 (Operand.tmp 31) 2, type := 0, pos := "reader.go:109", after := #[{ on := 6, ground := Ground.data }, { on := 11, ground := Ground.gcOnly Departure.lateStores }], guard := none }) (v := .pointer (some ⟨R, 2, none⟩)) rfl (by kernel_rfl) (by kernel_rfl) (by kernel_rfl) (fun _ _ _ h => h) (Or.inl ⟨by rfl, fun w' h => by go_simp⟩) hH ?_
  try simp only [Act.put, List.setIfInBounds_toArray, List.set_cons_zero, List.set_cons_succ]
  refine wpAnyH_take (i := 8) (oi := { dst := some 33, op := Op.load 4 (Operand.tmp 32), type := 4, pos := "reader.go:109", after := #[{ on := 7, ground := Ground.data }, { on := 11, ground := Ground.gcOnly Departure.lateStores }], guard := none }) (v := .bool nb) rfl (by kernel_rfl) (by kernel_rfl) (by kernel_rfl) (fun _ _ _ h => h) (Or.inl ⟨by rfl, fun w' h => by have q := h.2.1; go_simp⟩) hH ?_
  try simp only [Act.put, List.setIfInBounds_toArray, List.set_cons_zero, List.set_cons_succ]
  refine wpAnyH_take (i := 9) (oi := { dst := some 34, op := Op.unOp UnOp.not 4 (Operand.tmp 33), type := 4, pos := "reader.go:109", after := #[{ on := 8, ground := Ground.data }, { on := 11, ground := Ground.gcOnly Departure.lateStores }], guard := none }) (v := .bool (!nb)) rfl (by kernel_rfl) (by kernel_rfl) (by kernel_rfl) (fun _ _ _ h => h) (Or.inl ⟨by rfl, fun w' h => by go_simp⟩) hH ?_
  try simp only [Act.put, List.setIfInBounds_toArray, List.set_cons_zero, List.set_cons_succ]
  refine wpAnyH_ready (rs := [10]) (by kernel_rfl) (by simp) ?_
  refine AllReadyH.cons (o := { dst := none, op := Op.store 32 (Operand.tmp 6) (Operand.tmp 25), type := 0, pos := "reader.go:109", after := #[{ on := 0, ground := Ground.data }, { on := 0, ground := Ground.phase }, { on := 1, ground := Ground.textOnly Departure.lateStores }, { on := 2, ground := Ground.textOnly Departure.lateStores }, { on := 3, ground := Ground.textOnly Departure.lateStores }, { on := 4, ground := Ground.textOnly Departure.lateStores }, { on := 5, ground := Ground.textOnly Departure.lateStores }, { on := 6, ground := Ground.textOnly Departure.lateStores }, { on := 7, ground := Ground.textOnly Departure.lateStores }, { on := 8, ground := Ground.textOnly Departure.lateStores }, { on := 9, ground := Ground.textOnly Departure.lateStores }], guard := none }) rfl (fun Kx hK => ?_) AllReadyH.nil
  refine op_putS (zs := [.int .i64 0, .slice none 0 0, .slice none 0 0]) ([.int .i64 td, .slice a n c, .slice b m d]) rfl (sz3 _ _ _) (fun u hu => by simp at hu; rcases hu with rfl | rfl | rfl <;> rfl) rfl _ _ rfl D rfl rfl (D9.out.drewN 1) ?_
  intro w10 b10 g10
  have K10 : Hid (RS bs R v s9 w10) := (K9.out.drewN 1).other g10 (fun e => RD.out e.symm) (fun h0 e => DV.out h0 e)
  have B10 : Hid (Blk E 32 ([.int .i64 td, .slice a n c, .slice b m d]) w10) := (B9.out.drewN 1).grown g10 (fun e => DE.out e)
  have G10 : Hid (w.grownBy w10 (some R)) := grown_more (grownBy_drewN G9.out 1) g10 (by rw [HD.out]; exact Nat.le_refl _)
  have N10 : Hid (Blk D 32 ([.int .i64 td, .slice a n c, .slice b m d]) w10) := b10
  have q1 : w10.cell? ⟨R, 1, none⟩ = some (.int .i64 y) := (World.cell?_of_block (a := ⟨R, 1, none⟩) (g10.block R (K9.out.lt) (fun e => RD.out (by injection e)))).trans y1
  have q2 : w10.cell? ⟨R, 2, none⟩ = some (.bool nb) := (World.cell?_of_block (a := ⟨R, 2, none⟩) (g10.block R (K9.out.lt) (fun e => RD.out (by injection e)))).trans y2
  refine hK.out _ _ ⟨q1, q2, B10.out⟩ (fun hH => ?_)
  try simp only [Act.put]
  refine wpAnyH_take (i := 11) (oi := { dst := some 7, op := Op.assign (Operand.tmp 29), type := 3, pos := "reader.go:109", after := #[{ on := 4, ground := Ground.data }, { on := 10, ground := Ground.chain }, { on := 0, ground := Ground.phase }, { on := 1, ground := Ground.phase }, { on := 2, ground := Ground.phase }, { on := 3, ground := Ground.phase }, { on := 4, ground := Ground.phase }, { on := 5, ground := Ground.textOnly Departure.lateStores }, { on := 6, ground := Ground.textOnly Departure.lateStores }, { on := 7, ground := Ground.textOnly Departure.lateStores }, { on := 8, ground := Ground.textOnly Departure.lateStores }, { on := 9, ground := Ground.textOnly Departure.lateStores }, { on := 10, ground := Ground.phase }], guard := none }) (v := .int .i64 y) rfl (by kernel_rfl) (by kernel_rfl) (by kernel_rfl) (fun _ _ _ h => h) (Or.inl ⟨by rfl, fun w' h => by go_simp⟩) hH ?_
  try simp only [Act.put, List.setIfInBounds_toArray, List.set_cons_zero, List.set_cons_succ]
  refine wpAnyH_take (i := 12) (oi := { dst := some 8, op := Op.assign (Operand.tmp 34), type := 4, pos := "reader.go:109", after := #[{ on := 9, ground := Ground.data }, { on := 11, ground := Ground.chain }, { on := 0, ground := Ground.phase }, { on := 1, ground := Ground.phase }, { on := 2, ground := Ground.phase }, { on := 3, ground := Ground.phase }, { on := 4, ground := Ground.phase }, { on := 5, ground := Ground.phase }, { on := 6, ground := Ground.phase }, { on := 7, ground := Ground.phase }, { on := 8, ground := Ground.phase }, { on := 9, ground := Ground.phase }, { on := 10, ground := Ground.phase }, { on := 11, ground := Ground.phase }], guard := none }) (v := .bool (!nb)) rfl (by kernel_rfl) (by kernel_rfl) (by kernel_rfl) (fun _ _ _ h => h) (Or.inl ⟨by rfl, fun w' h => by go_simp⟩) hH ?_
  try simp only [Act.put, List.setIfInBounds_toArray, List.set_cons_zero, List.set_cons_succ]
  refine wpAnyH_done (by kernel_rfl) ?_ _
  have M10 : Hid (MemP (D + 1) E ⟨td, ls, ns⟩ [.int .i64 td, .slice a n c, .slice b m d] w10) := (show MemP (D + 1) E ⟨td, ls, ns⟩ [.int .i64 td, .slice a n c, .slice b m d] (w9.drewN 1) from M9.out.later (below_drewN (Below.refl _ _) 1)).grown g10 (.inl (by omega))
  have S10 : Hid (E < w10.heap.size) := B10.out.lt
  clear hH hK b10 g10 q1 q2 y1 y2 B9 D9 M9
  go_wp2_with fail
  refine bodyPost_cell_tmp2 rfl rfl D 32 ([.int .i64 td, .slice a n c, .slice b m d] : List Value).toArray (0, 0) _ rfl N10.out Try.underlying32 rfl (sz3 _ _ _) ⟨⟨td, ls, ns⟩, [.int .i64 td, .slice a n c, .slice b m d], y, s9, ?_, HY.out, G10.out, rfl, (fun u hu => by simp at hu; rcases hu with rfl | rfl | rfl <;> rfl), M10.out.mono (by have := HD.out; omega) (by have := S10.out; omega), GT.out⟩
  rw [NB.out]; rfl
end Go.Proofs.Ytdbjjeaflfoppaa
