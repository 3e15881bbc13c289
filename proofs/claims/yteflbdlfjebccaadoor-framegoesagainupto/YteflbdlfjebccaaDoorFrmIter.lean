/-
  Ours: frame.All: the iterator's word.
-/
import Derived.Test.YteflbdlfjebccaaDoorFrmDec
import Derived.Test.YteflbdlfjebccaaDoorFrmRange
import Derived.Shelf.RegionOpen
namespace Go.Proofs.YteflbdlfjebccaaDoor
open Go.RowKit Go.Shelf
attribute [local go_sem] Oper.semAt_some

/-- Payloads with the places of their frames. -/
def places : Nat → List (List Nat) → List (Nat × List Nat)
  | _, [] => []
  | a, p :: ps => (a, p) :: places (a + p.length + 8) ps
def allL (bs : List Nat) : List (Nat × List Nat) := places 0 (CrcM.scan bs).1

/-- What is handed to yield: a place, and a payload where it lies. -/
structure Item where
  pl : Nat
  a : Option Addr
  c : Nat
  p : List Nat
def Item.v (x : Item) : Value := .slice x.a x.p.length x.c
def Item.d (x : Item) : Nat × List Nat := (x.pl, x.p)
def Item.enc (x : Item) : Array Value := #[.int .i64 (x.pl : Int), .slice x.a x.p.length x.c]
structure ItemOk (bs : List Nat) (base : Nat) (pre : List Item) (x : Item) (W : World) : Prop where
  row : RowB 5 base W x.v x.p
  apart : ∀ y ∈ pre, ∀ g, y.v.ownBlock = some g → x.v.ownBlock ≠ some g
  room : x.pl + x.p.length + 8 ≤ bs.length
  next : (pre.map Item.d ++ [x.d]) <+: allL bs

/-- What the iterator reads. -/
structure Env (bs : List Nat) (ov : Value) (Bo : Nat) (W : World) : Prop where
  rd : RdB W ov bs
  box : W.cell? ⟨Bo, 0, none⟩ = some ov
  tab : TabS W
theorem Env.below {bs : List Nat} {ov : Value} {Bo : Nat} {W W' : World} (h : Env bs ov Bo W) (hb : Below W.heap.size W W') : Env bs ov Bo W' :=
  ⟨Rd.later h.rd hb, (hb.cell (p := ⟨Bo, 0, none⟩) (World.block_lt_of_cell? W _ h.box)).trans h.box, h.tab.below hb⟩
theorem Env.still {bs : List Nat} {ov : Value} {Bo : Nat} {W W' : World} {K : Nat → Prop} (h : Env bs ov Bo W) (hs : Still K W W') (k0 : K 0) (k1 : K Bo) (k2 : ∀ g, ov.ownBlock = some g → K g) : Env bs ov Bo W' := by
  refine ⟨?_, (World.cell?_of_block (hs.same _ k1)).trans h.box, fun m hm => (World.cell?_of_block (hs.same _ k0)).trans (h.tab m hm)⟩
  obtain ⟨ao, cap, e, h1, h2, h3⟩ := h.rd
  refine ⟨ao, cap, e, h1, h2, fun i hi => ?_⟩
  obtain ⟨g, o, e1, lt, hc⟩ := h3 i hi
  refine ⟨g, o, e1, Nat.lt_of_lt_of_le lt hs.size, ?_⟩
  rw [World.cell?_of_block (hs.same g (k2 g (by rw [e, e1]; rfl))), hc]

theorem scan_step {bs : List Nat} {A : Nat} {pre : List Item} (hinv : pre.map Item.d ++ places A (CrcM.scan (bs.drop A)).1 = allL bs) (h : (CrcM.whole (bs.drop A)).1 ≠ 0) {x : Item} (hx : x.pl = A) (hp : x.p = CrcM.pay (bs.drop A)) :
    (pre ++ [x]).map Item.d ++ places (A + (CrcM.whole (bs.drop A)).1) (CrcM.scan (bs.drop (A + (CrcM.whole (bs.drop A)).1))).1 = allL bs ∧ (pre.map Item.d ++ [x.d]) <+: allL bs := by
  have pl := CrcM.pay_len h
  rw [CrcM.scan_some h] at hinv
  simp only [places] at hinv
  rw [List.drop_drop, show A + (CrcM.pay (bs.drop A)).length + 8 = A + (CrcM.whole (bs.drop A)).1 by omega] at hinv
  have e : x.d = (A, CrcM.pay (bs.drop A)) := by unfold Item.d; rw [hx, hp]
  refine ⟨?_, ?_⟩
  · rw [List.map_append, List.map_cons, List.map_nil, e, List.append_assoc]
    exact hinv
  · rw [e, ← hinv]
    exact ⟨_, by rw [List.append_assoc]; rfl⟩

set_option maxRecDepth 100000 in
set_option maxHeartbeats 1000000 in
theorem iter_tells (bs : List Nat) (ov : Value) (Bo : Nat) (w : World) (K : Nat → Prop) (hb : ∀ b ∈ bs, b < 256) (hl : bs.length ≤ 1000000000000) (hE : Env bs ov Bo w) (k0 : K 0) (k1 : K Bo) (k2 : ∀ g, ov.ownBlock = some g → K g) :
    SeqTells Tryd.prog 15 #[.pointer (some ⟨Bo, 0, none⟩)] Item.enc (ItemOk bs w.heap.size) K (fun xs => xs.map Item.d = allL bs) (fun _ => True) w := by
  intro n l J Jx W hW sJ _ hY h0
  have E0 : Hid (Env bs ov Bo W) := hE.below hW
  have STP : Hid (∀ W W', Env bs ov Bo W → Still K W W' → Env bs ov Bo W') := fun W W' h hs => h.still hs k0 k1 k2
  have DEC : Hid (∀ (A : Nat) W', Env bs ov Bo W' → CallsIn Fence.wide n Tryd.prog 16 #[ov, .int .i64 (A : Int)] W' (NewP W' (decL bs (A : Int)))) := fun A W' h => callsIn_wide.2 (decode_at bs _ ov W' hb hl h.rd h.tab)
  obtain ⟨ao, cap, rfl, _, _⟩ := hE.rd.len
  have SZ : Hid (w.heap.size ≤ W.heap.size) := hW.size
  have LL : Hid (bs.length ≤ 1000000000000) := hl
  clear hE k0 k1 k2 hW hl hb
  generalize (bs.map bv).length = L at *
  refine callsIn_of_wp Tryd.func15 rfl trivial ?_ rfl
  simp only [Tryd.ntmps15, List.size_toArray, List.length_cons, List.length_nil, Nat.reduceAdd, Nat.reduceSub, Array.replicate_succ, Array.replicate_zero, List.push_toArray, List.append_toArray, List.nil_append, List.cons_append]
  gi_wp2
  gi_loopw [3] (fun va wr => ∃ (A : Nat) (pre : List Item), va = .int .i64 (A : Int) ∧ A ≤ bs.length ∧ Hid (Env bs (.slice ao L cap) Bo wr) ∧ Hid (J pre wr) ∧ Hid (pre.map Item.d ++ places A (CrcM.scan (bs.drop A)).1 = allL bs) ∧ Hid (∀ y ∈ pre, ∀ g, y.v.ownBlock = some g → g < wr.heap.size) ∧ W.heap.size ≤ wr.heap.size) (fun va _ => bs.length - (intOf va).toNat)
  case atStart => exact ⟨0, [], rfl, by omega, E0, h0, (by show _ = _; simp [allL]), (fun y hy => nomatch hy), Nat.le_refl _⟩
  case round =>
    obtain ⟨A, pre, rfl, hA, hEn, hJ, hinv, hlt, hsz⟩ := hrel
    have hc := hEn.out.box
    have NX : Hid (W.heap.size ≤ wr.heap.size) := hsz
    by_cases h3 : (CrcM.whole (bs.drop A)).1 = 0
    · have D : Hid (CallsIn Fence.wide n Tryd.prog 16 #[.slice ao L cap, .int .i64 (A : Int)] wr (NewP wr ([], (A : Int), (CrcM.whole (bs.drop A)).2))) := by
        have := DEC.out A wr hEn.out
        unfold decL at this
        rw [if_neg (by omega), Int.toNat_natCast, if_pos h3] at this
        exact this
      have FIN : Hid (pre.map Item.d = allL bs) := by
        have := hinv.out
        rw [CrcM.scan_none h3] at this
        show _ = _
        simpa [places] using this
      have e1 : ((A : Int) == (A : Int)) = true := by simp
      generalize (CrcM.whole (bs.drop A)).2 = T at *
      clear h3 hinv hEn hlt
      gi_wp2
      refine ⟨trivial, D.out.mono ?_⟩
      rintro e w2 ⟨a2, c2, rfl, o2, b2⟩
      gi_wp2
      refine ⟨fun _ h => (by cases h), ?_⟩
      gi_wp2
      refine bodyPost_ret (results_none rfl _ _ _) rfl ?_
      exact ⟨⟨_, rfl⟩, .inl ⟨pre, FIN.out, sJ _ _ _ hJ.out b2⟩⟩
    · have D : Hid (CallsIn Fence.wide n Tryd.prog 16 #[.slice ao L cap, .int .i64 (A : Int)] wr (NewP wr (CrcM.pay (bs.drop A), (A : Int) + ((CrcM.whole (bs.drop A)).1 : Nat), 0))) := by
        have := DEC.out A wr hEn.out
        unfold decL at this
        rw [if_neg (by omega), Int.toNat_natCast, if_neg h3] at this
        exact this
      have SS : Hid (∀ x : Item, x.pl = A → x.p = CrcM.pay (bs.drop A) → (pre ++ [x]).map Item.d ++ places (A + (CrcM.whole (bs.drop A)).1) (CrcM.scan (bs.drop (A + (CrcM.whole (bs.drop A)).1))).1 = allL bs ∧ (pre.map Item.d ++ [x.d]) <+: allL bs) := fun x h1 h2 => scan_step hinv.out h3 h1 h2
      have pl := CrcM.pay_len h3
      obtain ⟨_, _, q3, q4, _⟩ := CrcM.whole_pos h3
      rw [List.length_drop] at q4
      have hlen : A + (CrcM.whole (bs.drop A)).1 ≤ bs.length := by omega
      have hpos : 8 ≤ (CrcM.whole (bs.drop A)).1 := by omega
      generalize (CrcM.whole (bs.drop A)).1 = S at *
      generalize CrcM.pay (bs.drop A) = P at *
      have e1 : ((A : Int) + (S : Int) == (A : Int)) = false := beq_eq_false_iff_ne.2 (by omega)
      have hbig := LL.out
      clear h3 hinv q3 q4
      gi_wp2
      refine ⟨trivial, D.out.mono ?_⟩
      rintro e w2 ⟨a2, c2, rfl, o2, b2⟩
      simp only at o2 ⊢
      have J2 : J pre w2 := sJ _ _ _ hJ.out b2
      have OK : ItemOk bs w.heap.size pre ⟨A, a2, c2, P⟩ w2 := ⟨o2.mono (by have := SZ.out; omega), fun y hy g hg e => by
        have h1 := hlt.out y hy g hg
        have h2 := o2.block_ge (g := g) e
        omega, by simp only; omega, (SS.out ⟨A, a2, c2, P⟩ rfl rfl).2⟩
      obtain ⟨fn, tmps, assign, body, hy, hR⟩ := hY pre ⟨A, a2, c2, P⟩ w2 J2 OK
      have E2 : Hid (Env bs (.slice ao L cap) Bo w2) := hEn.out.below b2
      have BL : Hid (∀ y ∈ pre ++ [(⟨A, a2, c2, P⟩ : Item)], ∀ g, y.v.ownBlock = some g → g < w2.heap.size) := fun y hy' g hg => by
        rcases List.mem_append.1 hy' with h1 | h1
        · have := hlt.out y h1 g hg
          have := b2.size
          omega
        · simp at h1
          subst h1
          exact o2.block_lt hg
      have Z2 : Hid (wr.heap.size ≤ w2.heap.size) := b2.size
      have HR : Hid (RoundIn Fence.wide n Tryd.prog l fn tmps assign body w2 fun e W' => (e = .returned (.bool true) ∧ J (pre ++ [⟨A, a2, c2, P⟩]) W' ∧ Still K w2 W') ∨ (e = .returned (.bool false) ∧ Jx (pre ++ [⟨A, a2, c2, P⟩]) W')) := hR
      unfold Item.enc at hy
      dsimp only at hy
      clear o2 b2 hEn hlt J2 OK hJ D hR
      gi_wp2
      refine HR.out.mono ?_
      rintro e W3 (⟨rfl, hJ3, hk3⟩ | ⟨rfl, hJx3⟩)
      · have E3 : Hid (Env bs (.slice ao L cap) Bo W3) := STP.out _ _ E2.out hk3
        have z3 := hk3.size
        have HJ3 : Hid (J (pre ++ [⟨A, a2, c2, P⟩]) W3) := hJ3
        have HS3 : Hid ((pre ++ [(⟨A, a2, c2, P⟩ : Item)]).map Item.d ++ places (A + S) (CrcM.scan (bs.drop (A + S))).1 = allL bs) := (SS.out ⟨A, a2, c2, P⟩ rfl rfl).1
        have HB3 : Hid (∀ y ∈ pre ++ [(⟨A, a2, c2, P⟩ : Item)], ∀ g, y.v.ownBlock = some g → g < W3.heap.size) := fun y hy' g hg => by have := BL.out y hy' g hg; omega
        clear hJ3
        gi_wp2
        go_roundw
        case rel => exact ⟨A + S, pre ++ [⟨A, a2, c2, P⟩], by go_num, by omega, E3, HJ3, HS3, HB3, by have := NX.out; have := Z2.out; omega⟩
        case measure => simp [intOf]; omega
      · gi_wp2
        refine bodyPost_ret (results_none rfl _ _ _) rfl ?_
        exact ⟨⟨_, rfl⟩, .inr ⟨_, trivial, hJx3⟩⟩
end Go.Proofs.YteflbdlfjebccaaDoor
