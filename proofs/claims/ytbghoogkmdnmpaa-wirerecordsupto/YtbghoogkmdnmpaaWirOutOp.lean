/-
  Ours: the reference's Out.op, mask by mask, and EncodeOp.
-/
import Derived.Test.YtbghoogkmdnmpaaWirOut3
namespace Go.Proofs.Ytbghoogkmdnmpaa
open Go.RowKit

theorem Blk.fr {K : Nat → Prop} {base G : Nat} {ty : TypeId} {cs : List Value} {w w' : World} (h : Blk G ty cs w) (f : Fr K base w w') (hk : K G) : Blk G ty cs w' := (f.kept G hk).trans h

set_option maxRecDepth 20000 in
set_option maxHeartbeats 1000000 in
theorem outOp_31 (K : Nat → Prop) (R base : Nat) (bs : List Nat) (o : OpV) (ok : o.Ok) (hm : fmask o.kind = some 31) (w : World) (h : OutS K R base bs w) (hl : bs.length ≤ 800000000000) :
    Calls Try.prog 93 #[.pointer (some ⟨R, 0, none⟩), opV o] w fun e w' => e = .returned (.tuple #[]) ∧ OutS K R base (bs ++ opL o) w' ∧ Fr K base w w' := by
  obtain ⟨f0, f1, f2, f3, f4, f5, f6⟩ := o
  obtain ⟨k0, k1, k2, k3, k4, k5, k6⟩ := ok
  have E : Hid (bs ++ opL ⟨f0, f1, f2, f3, f4, f5, f6⟩ = bs ++ putI f0 ++ putI f1 ++ putI f2 ++ putI f3 ++ putI f4 ++ putI f5) := by
    show _ = _
    unfold opL; rw [hm]; simp [opM]
  have US : Hid (∀ w, Calls Try.prog 68 #[.int .i64 f0] w fun e w' => e = .returned (.agg #[.bool false, .bool true, .bool true, .bool true, .bool true, .bool true, .bool false]) ∧ Below w.heap.size w w') := fun w => by
    have := uses_at f0 w
    rw [show fmask f0 = some 31 from hm] at this; exact this
  have L0 : (bs).length ≤ 900000000000 := by
    omega
  have P0 : Hid (∀ K w, OutS K R base (bs) w → Calls Try.prog 95 #[.pointer (some ⟨R, 0, none⟩), .int .i64 f0] w fun e w' => e = .returned (.tuple #[]) ∧ OutS K R base (bs ++ putI f0) w' ∧ Fr K base w w') := fun K w h => outN_at K R base _ f0 k0 w h L0
  have L1 : (bs ++ putI f0).length ≤ 900000000000 := by
    have := putI_len f0 k0
    simp only [List.length_append]; omega
  have P1 : Hid (∀ K w, OutS K R base (bs ++ putI f0) w → Calls Try.prog 95 #[.pointer (some ⟨R, 0, none⟩), .int .i64 f1] w fun e w' => e = .returned (.tuple #[]) ∧ OutS K R base (bs ++ putI f0 ++ putI f1) w' ∧ Fr K base w w') := fun K w h => outN_at K R base _ f1 k1 w h L1
  have L2 : (bs ++ putI f0 ++ putI f1).length ≤ 900000000000 := by
    have := putI_len f0 k0
    have := putI_len f1 k1
    simp only [List.length_append]; omega
  have P2 : Hid (∀ K w, OutS K R base (bs ++ putI f0 ++ putI f1) w → Calls Try.prog 120 #[.pointer (some ⟨R, 0, none⟩), .int .i64 f2] w fun e w' => e = .returned (.tuple #[]) ∧ OutS K R base (bs ++ putI f0 ++ putI f1 ++ putI f2) w' ∧ Fr K base w w') := fun K w h => outNum_at K R base _ f2 k2 w h L2
  have L3 : (bs ++ putI f0 ++ putI f1 ++ putI f2).length ≤ 900000000000 := by
    have := putI_len f0 k0
    have := putI_len f1 k1
    have := putI_len f2 k2
    simp only [List.length_append]; omega
  have P3 : Hid (∀ K w, OutS K R base (bs ++ putI f0 ++ putI f1 ++ putI f2) w → Calls Try.prog 120 #[.pointer (some ⟨R, 0, none⟩), .int .i64 f3] w fun e w' => e = .returned (.tuple #[]) ∧ OutS K R base (bs ++ putI f0 ++ putI f1 ++ putI f2 ++ putI f3) w' ∧ Fr K base w w') := fun K w h => outNum_at K R base _ f3 k3 w h L3
  have L4 : (bs ++ putI f0 ++ putI f1 ++ putI f2 ++ putI f3).length ≤ 900000000000 := by
    have := putI_len f0 k0
    have := putI_len f1 k1
    have := putI_len f2 k2
    have := putI_len f3 k3
    simp only [List.length_append]; omega
  have P4 : Hid (∀ K w, OutS K R base (bs ++ putI f0 ++ putI f1 ++ putI f2 ++ putI f3) w → Calls Try.prog 95 #[.pointer (some ⟨R, 0, none⟩), .int .i64 f4] w fun e w' => e = .returned (.tuple #[]) ∧ OutS K R base (bs ++ putI f0 ++ putI f1 ++ putI f2 ++ putI f3 ++ putI f4) w' ∧ Fr K base w w') := fun K w h => outN_at K R base _ f4 k4 w h L4
  have L5 : (bs ++ putI f0 ++ putI f1 ++ putI f2 ++ putI f3 ++ putI f4).length ≤ 900000000000 := by
    have := putI_len f0 k0
    have := putI_len f1 k1
    have := putI_len f2 k2
    have := putI_len f3 k3
    have := putI_len f4 k4
    simp only [List.length_append]; omega
  have P5 : Hid (∀ K w, OutS K R base (bs ++ putI f0 ++ putI f1 ++ putI f2 ++ putI f3 ++ putI f4) w → Calls Try.prog 95 #[.pointer (some ⟨R, 0, none⟩), .int .i64 f5] w fun e w' => e = .returned (.tuple #[]) ∧ OutS K R base (bs ++ putI f0 ++ putI f1 ++ putI f2 ++ putI f3 ++ putI f4 ++ putI f5) w' ∧ Fr K base w w') := fun K w h => outN_at K R base _ f5 k5 w h L5
  rw [E.out]
  unfold opV
  simp only
  have BA := below_alloc w (.cells #[.int .i64 f0, .int .i64 f1, .int .i64 f2, .int .i64 f3, .int .i64 f4, .int .i64 f5, .string f6] 23)
  have BX0 := Blk.new 23 [.int .i64 f0, .int .i64 f1, .int .i64 f2, .int .i64 f3, .int .i64 f4, .int .i64 f5, .string f6] w
  have h0 := h.later BA
  have FR0 := h.fr BA
  have hR := h.lt
  have OW : Hid (∀ w', Below w.heap.size w w' → ∀ v, w'.cell? ⟨R, 0, none⟩ = some v → ∀ g, v.ownBlock = some g → g < w.heap.size) := fun w' hb => h.own hb
  clear h hm E hl k0 k1 k2 k3 k4 k5 k6 L0 L1 L2 L3 L4 L5
  go_enter Try.func93, Try.ntmps93
  go_wp2_with fail
  refine (US.out _).mono ?_
  rintro e w2 ⟨rfl, b2⟩
  have bx2 := Blk.below BX0 b2
  have h2 := h0.later b2
  have FR2 := FR0.trans (h0.fr b2)
  have BA2 := below_trans BA b2
  clear BX0 h0 FR0 b2 BA
  have BU := Blk.new 120 [.bool false, .bool true, .bool true, .bool true, .bool true, .bool true, .bool false] w2
  have BAU := below_alloc w2 (.cells #[.bool false, .bool true, .bool true, .bool true, .bool true, .bool true, .bool false] 120)
  have bx := Blk.below bx2 BAU
  have h3 := h2.later BAU
  have FR3 := FR2.trans (h2.fr BAU)
  have OW3 := OW.out _ (below_trans BA2 BAU)
  have ltX := bx2.lt
  have cx0 := bx2.cell 0 _ rfl
  have sU : (w2.alloc (.cells #[.bool false, .bool true, .bool true, .bool true, .bool true, .bool true, .bool false] 120)).heap.size = w2.heap.size + 1 := by simp
  clear h2 FR2 BA2 BAU OW
  obtain ⟨X, hXe⟩ : ∃ X, w.heap.size = X := ⟨_, rfl⟩
  rw [hXe] at bx bx2 ltX cx0 hR OW3 ⊢
  go_wp2_with fail
  obtain ⟨U, hUe⟩ : ∃ U, w2.heap.size = U := ⟨_, rfl⟩
  rw [hUe] at BU ltX sU ⊢
  have KU : Blk U 120 [.bool false, .bool true, .bool true, .bool true, .bool true, .bool true, .bool false] (w2.alloc (.cells #[.bool false, .bool true, .bool true, .bool true, .bool true, .bool true, .bool false] 120)) := BU
  clear BU cx0 bx2 hUe
  generalize w2.alloc (.cells #[.bool false, .bool true, .bool true, .bool true, .bool true, .bool true, .bool false] 120) = W0 at *
  have O0 : OutS (fun g => K g ∨ g = X ∨ g = U) R base bs W0 := h3.more _ fun g hg => by
    rcases hg with hg | rfl | rfl
    · exact .inl hg
    · exact .inr ⟨by omega, by omega, fun v hv e => by have := OW3 v hv _ e; omega⟩
    · exact .inr ⟨by omega, by omega, fun v hv e => by have := OW3 v hv _ e; omega⟩
  clear h3 OW3 sU
  refine (P0.out _ _ O0).mono ?_
  rintro e u0 ⟨rfl, ob0, g0⟩
  have bx0 := Blk.fr bx g0 (.inr (.inl rfl))
  have bu0 := Blk.fr KU g0 (.inr (.inr rfl))
  have fr0 := FR3.trans (g0.less fun g hg => .inl hg)
  clear O0 FR3 bx KU g0
  have lu1 := bu0.cell 1 _ rfl
  have lu2 := bu0.cell 2 _ rfl
  have lu3 := bu0.cell 3 _ rfl
  have lu4 := bu0.cell 4 _ rfl
  have lu5 := bu0.cell 5 _ rfl
  have lu6 := bu0.cell 6 _ rfl
  have lx1 := bx0.cell 1 _ rfl
  go_wp2_with fail
  clear lu1 lu2 lu3 lu4 lu5 lu6 lx1
  refine (P1.out _ _ ob0).mono ?_
  rintro e u1 ⟨rfl, ob1, g1⟩
  have bx1 := Blk.fr bx0 g1 (.inr (.inl rfl))
  have bu1 := Blk.fr bu0 g1 (.inr (.inr rfl))
  have fr1 := fr0.trans (g1.less fun g hg => .inl hg)
  clear ob0 fr0 bx0 bu0 g1
  have lu2 := bu1.cell 2 _ rfl
  have lu3 := bu1.cell 3 _ rfl
  have lu4 := bu1.cell 4 _ rfl
  have lu5 := bu1.cell 5 _ rfl
  have lu6 := bu1.cell 6 _ rfl
  have lx2 := bx1.cell 2 _ rfl
  go_wp2_with fail
  clear lu2 lu3 lu4 lu5 lu6 lx2
  refine (P2.out _ _ ob1).mono ?_
  rintro e u2 ⟨rfl, ob2, g2⟩
  have bx2 := Blk.fr bx1 g2 (.inr (.inl rfl))
  have bu2 := Blk.fr bu1 g2 (.inr (.inr rfl))
  have fr2 := fr1.trans (g2.less fun g hg => .inl hg)
  clear ob1 fr1 bx1 bu1 g2
  have lu3 := bu2.cell 3 _ rfl
  have lu4 := bu2.cell 4 _ rfl
  have lu5 := bu2.cell 5 _ rfl
  have lu6 := bu2.cell 6 _ rfl
  have lx3 := bx2.cell 3 _ rfl
  go_wp2_with fail
  clear lu3 lu4 lu5 lu6 lx3
  refine (P3.out _ _ ob2).mono ?_
  rintro e u3 ⟨rfl, ob3, g3⟩
  have bx3 := Blk.fr bx2 g3 (.inr (.inl rfl))
  have bu3 := Blk.fr bu2 g3 (.inr (.inr rfl))
  have fr3 := fr2.trans (g3.less fun g hg => .inl hg)
  clear ob2 fr2 bx2 bu2 g3
  have lu4 := bu3.cell 4 _ rfl
  have lu5 := bu3.cell 5 _ rfl
  have lu6 := bu3.cell 6 _ rfl
  have lx4 := bx3.cell 4 _ rfl
  go_wp2_with fail
  clear lu4 lu5 lu6 lx4
  refine (P4.out _ _ ob3).mono ?_
  rintro e u4 ⟨rfl, ob4, g4⟩
  have bx4 := Blk.fr bx3 g4 (.inr (.inl rfl))
  have bu4 := Blk.fr bu3 g4 (.inr (.inr rfl))
  have fr4 := fr3.trans (g4.less fun g hg => .inl hg)
  clear ob3 fr3 bx3 bu3 g4
  have lu5 := bu4.cell 5 _ rfl
  have lu6 := bu4.cell 6 _ rfl
  have lx5 := bx4.cell 5 _ rfl
  go_wp2_with fail
  clear lu5 lu6 lx5
  refine (P5.out _ _ ob4).mono ?_
  rintro e u5 ⟨rfl, ob5, g5⟩
  have bx5 := Blk.fr bx4 g5 (.inr (.inl rfl))
  have bu5 := Blk.fr bu4 g5 (.inr (.inr rfl))
  have fr5 := fr4.trans (g5.less fun g hg => .inl hg)
  clear ob4 fr4 bx4 bu4 g5
  have lu6 := bu5.cell 6 _ rfl
  go_wp2_with fail
  go_end0
  exact ⟨rfl, ob5.fewer (fun g hg => .inl hg), fr5⟩

set_option maxRecDepth 20000 in
set_option maxHeartbeats 1000000 in
theorem outOp_11 (K : Nat → Prop) (R base : Nat) (bs : List Nat) (o : OpV) (ok : o.Ok) (hm : fmask o.kind = some 11) (w : World) (h : OutS K R base bs w) (hl : bs.length ≤ 800000000000) :
    Calls Try.prog 93 #[.pointer (some ⟨R, 0, none⟩), opV o] w fun e w' => e = .returned (.tuple #[]) ∧ OutS K R base (bs ++ opL o) w' ∧ Fr K base w w' := by
  obtain ⟨f0, f1, f2, f3, f4, f5, f6⟩ := o
  obtain ⟨k0, k1, k2, k3, k4, k5, k6⟩ := ok
  have E : Hid (bs ++ opL ⟨f0, f1, f2, f3, f4, f5, f6⟩ = bs ++ putI f0 ++ putI f1 ++ putI f2 ++ putI f4) := by
    show _ = _
    unfold opL; rw [hm]; simp [opM]
  have US : Hid (∀ w, Calls Try.prog 68 #[.int .i64 f0] w fun e w' => e = .returned (.agg #[.bool false, .bool true, .bool true, .bool false, .bool true, .bool false, .bool false]) ∧ Below w.heap.size w w') := fun w => by
    have := uses_at f0 w
    rw [show fmask f0 = some 11 from hm] at this; exact this
  have L0 : (bs).length ≤ 900000000000 := by
    omega
  have P0 : Hid (∀ K w, OutS K R base (bs) w → Calls Try.prog 95 #[.pointer (some ⟨R, 0, none⟩), .int .i64 f0] w fun e w' => e = .returned (.tuple #[]) ∧ OutS K R base (bs ++ putI f0) w' ∧ Fr K base w w') := fun K w h => outN_at K R base _ f0 k0 w h L0
  have L1 : (bs ++ putI f0).length ≤ 900000000000 := by
    have := putI_len f0 k0
    simp only [List.length_append]; omega
  have P1 : Hid (∀ K w, OutS K R base (bs ++ putI f0) w → Calls Try.prog 95 #[.pointer (some ⟨R, 0, none⟩), .int .i64 f1] w fun e w' => e = .returned (.tuple #[]) ∧ OutS K R base (bs ++ putI f0 ++ putI f1) w' ∧ Fr K base w w') := fun K w h => outN_at K R base _ f1 k1 w h L1
  have L2 : (bs ++ putI f0 ++ putI f1).length ≤ 900000000000 := by
    have := putI_len f0 k0
    have := putI_len f1 k1
    simp only [List.length_append]; omega
  have P2 : Hid (∀ K w, OutS K R base (bs ++ putI f0 ++ putI f1) w → Calls Try.prog 120 #[.pointer (some ⟨R, 0, none⟩), .int .i64 f2] w fun e w' => e = .returned (.tuple #[]) ∧ OutS K R base (bs ++ putI f0 ++ putI f1 ++ putI f2) w' ∧ Fr K base w w') := fun K w h => outNum_at K R base _ f2 k2 w h L2
  have L4 : (bs ++ putI f0 ++ putI f1 ++ putI f2).length ≤ 900000000000 := by
    have := putI_len f0 k0
    have := putI_len f1 k1
    have := putI_len f2 k2
    simp only [List.length_append]; omega
  have P4 : Hid (∀ K w, OutS K R base (bs ++ putI f0 ++ putI f1 ++ putI f2) w → Calls Try.prog 95 #[.pointer (some ⟨R, 0, none⟩), .int .i64 f4] w fun e w' => e = .returned (.tuple #[]) ∧ OutS K R base (bs ++ putI f0 ++ putI f1 ++ putI f2 ++ putI f4) w' ∧ Fr K base w w') := fun K w h => outN_at K R base _ f4 k4 w h L4
  rw [E.out]
  unfold opV
  simp only
  have BA := below_alloc w (.cells #[.int .i64 f0, .int .i64 f1, .int .i64 f2, .int .i64 f3, .int .i64 f4, .int .i64 f5, .string f6] 23)
  have BX0 := Blk.new 23 [.int .i64 f0, .int .i64 f1, .int .i64 f2, .int .i64 f3, .int .i64 f4, .int .i64 f5, .string f6] w
  have h0 := h.later BA
  have FR0 := h.fr BA
  have hR := h.lt
  have OW : Hid (∀ w', Below w.heap.size w w' → ∀ v, w'.cell? ⟨R, 0, none⟩ = some v → ∀ g, v.ownBlock = some g → g < w.heap.size) := fun w' hb => h.own hb
  clear h hm E hl k0 k1 k2 k3 k4 k5 k6 L0 L1 L2 L4
  go_enter Try.func93, Try.ntmps93
  go_wp2_with fail
  refine (US.out _).mono ?_
  rintro e w2 ⟨rfl, b2⟩
  have bx2 := Blk.below BX0 b2
  have h2 := h0.later b2
  have FR2 := FR0.trans (h0.fr b2)
  have BA2 := below_trans BA b2
  clear BX0 h0 FR0 b2 BA
  have BU := Blk.new 120 [.bool false, .bool true, .bool true, .bool false, .bool true, .bool false, .bool false] w2
  have BAU := below_alloc w2 (.cells #[.bool false, .bool true, .bool true, .bool false, .bool true, .bool false, .bool false] 120)
  have bx := Blk.below bx2 BAU
  have h3 := h2.later BAU
  have FR3 := FR2.trans (h2.fr BAU)
  have OW3 := OW.out _ (below_trans BA2 BAU)
  have ltX := bx2.lt
  have cx0 := bx2.cell 0 _ rfl
  have sU : (w2.alloc (.cells #[.bool false, .bool true, .bool true, .bool false, .bool true, .bool false, .bool false] 120)).heap.size = w2.heap.size + 1 := by simp
  clear h2 FR2 BA2 BAU OW
  obtain ⟨X, hXe⟩ : ∃ X, w.heap.size = X := ⟨_, rfl⟩
  rw [hXe] at bx bx2 ltX cx0 hR OW3 ⊢
  go_wp2_with fail
  obtain ⟨U, hUe⟩ : ∃ U, w2.heap.size = U := ⟨_, rfl⟩
  rw [hUe] at BU ltX sU ⊢
  have KU : Blk U 120 [.bool false, .bool true, .bool true, .bool false, .bool true, .bool false, .bool false] (w2.alloc (.cells #[.bool false, .bool true, .bool true, .bool false, .bool true, .bool false, .bool false] 120)) := BU
  clear BU cx0 bx2 hUe
  generalize w2.alloc (.cells #[.bool false, .bool true, .bool true, .bool false, .bool true, .bool false, .bool false] 120) = W0 at *
  have O0 : OutS (fun g => K g ∨ g = X ∨ g = U) R base bs W0 := h3.more _ fun g hg => by
    rcases hg with hg | rfl | rfl
    · exact .inl hg
    · exact .inr ⟨by omega, by omega, fun v hv e => by have := OW3 v hv _ e; omega⟩
    · exact .inr ⟨by omega, by omega, fun v hv e => by have := OW3 v hv _ e; omega⟩
  clear h3 OW3 sU
  refine (P0.out _ _ O0).mono ?_
  rintro e u0 ⟨rfl, ob0, g0⟩
  have bx0 := Blk.fr bx g0 (.inr (.inl rfl))
  have bu0 := Blk.fr KU g0 (.inr (.inr rfl))
  have fr0 := FR3.trans (g0.less fun g hg => .inl hg)
  clear O0 FR3 bx KU g0
  have lu1 := bu0.cell 1 _ rfl
  have lu2 := bu0.cell 2 _ rfl
  have lu3 := bu0.cell 3 _ rfl
  have lu4 := bu0.cell 4 _ rfl
  have lu5 := bu0.cell 5 _ rfl
  have lu6 := bu0.cell 6 _ rfl
  have lx1 := bx0.cell 1 _ rfl
  go_wp2_with fail
  clear lu1 lu2 lu3 lu4 lu5 lu6 lx1
  refine (P1.out _ _ ob0).mono ?_
  rintro e u1 ⟨rfl, ob1, g1⟩
  have bx1 := Blk.fr bx0 g1 (.inr (.inl rfl))
  have bu1 := Blk.fr bu0 g1 (.inr (.inr rfl))
  have fr1 := fr0.trans (g1.less fun g hg => .inl hg)
  clear ob0 fr0 bx0 bu0 g1
  have lu2 := bu1.cell 2 _ rfl
  have lu3 := bu1.cell 3 _ rfl
  have lu4 := bu1.cell 4 _ rfl
  have lu5 := bu1.cell 5 _ rfl
  have lu6 := bu1.cell 6 _ rfl
  have lx2 := bx1.cell 2 _ rfl
  go_wp2_with fail
  clear lu2 lu3 lu4 lu5 lu6 lx2
  refine (P2.out _ _ ob1).mono ?_
  rintro e u2 ⟨rfl, ob2, g2⟩
  have bx2 := Blk.fr bx1 g2 (.inr (.inl rfl))
  have bu2 := Blk.fr bu1 g2 (.inr (.inr rfl))
  have fr2 := fr1.trans (g2.less fun g hg => .inl hg)
  clear ob1 fr1 bx1 bu1 g2
  have lu3 := bu2.cell 3 _ rfl
  have lu4 := bu2.cell 4 _ rfl
  have lu5 := bu2.cell 5 _ rfl
  have lu6 := bu2.cell 6 _ rfl
  have lx4 := bx2.cell 4 _ rfl
  go_wp2_with fail
  clear lu3 lu4 lu5 lu6 lx4
  refine (P4.out _ _ ob2).mono ?_
  rintro e u4 ⟨rfl, ob4, g4⟩
  have bx4 := Blk.fr bx2 g4 (.inr (.inl rfl))
  have bu4 := Blk.fr bu2 g4 (.inr (.inr rfl))
  have fr4 := fr2.trans (g4.less fun g hg => .inl hg)
  clear ob2 fr2 bx2 bu2 g4
  have lu5 := bu4.cell 5 _ rfl
  have lu6 := bu4.cell 6 _ rfl
  go_wp2_with fail
  go_end0
  exact ⟨rfl, ob4.fewer (fun g hg => .inl hg), fr4⟩

set_option maxRecDepth 20000 in
set_option maxHeartbeats 1000000 in
theorem outOp_3 (K : Nat → Prop) (R base : Nat) (bs : List Nat) (o : OpV) (ok : o.Ok) (hm : fmask o.kind = some 3) (w : World) (h : OutS K R base bs w) (hl : bs.length ≤ 800000000000) :
    Calls Try.prog 93 #[.pointer (some ⟨R, 0, none⟩), opV o] w fun e w' => e = .returned (.tuple #[]) ∧ OutS K R base (bs ++ opL o) w' ∧ Fr K base w w' := by
  obtain ⟨f0, f1, f2, f3, f4, f5, f6⟩ := o
  obtain ⟨k0, k1, k2, k3, k4, k5, k6⟩ := ok
  have E : Hid (bs ++ opL ⟨f0, f1, f2, f3, f4, f5, f6⟩ = bs ++ putI f0 ++ putI f1 ++ putI f2) := by
    show _ = _
    unfold opL; rw [hm]; simp [opM]
  have US : Hid (∀ w, Calls Try.prog 68 #[.int .i64 f0] w fun e w' => e = .returned (.agg #[.bool false, .bool true, .bool true, .bool false, .bool false, .bool false, .bool false]) ∧ Below w.heap.size w w') := fun w => by
    have := uses_at f0 w
    rw [show fmask f0 = some 3 from hm] at this; exact this
  have L0 : (bs).length ≤ 900000000000 := by
    omega
  have P0 : Hid (∀ K w, OutS K R base (bs) w → Calls Try.prog 95 #[.pointer (some ⟨R, 0, none⟩), .int .i64 f0] w fun e w' => e = .returned (.tuple #[]) ∧ OutS K R base (bs ++ putI f0) w' ∧ Fr K base w w') := fun K w h => outN_at K R base _ f0 k0 w h L0
  have L1 : (bs ++ putI f0).length ≤ 900000000000 := by
    have := putI_len f0 k0
    simp only [List.length_append]; omega
  have P1 : Hid (∀ K w, OutS K R base (bs ++ putI f0) w → Calls Try.prog 95 #[.pointer (some ⟨R, 0, none⟩), .int .i64 f1] w fun e w' => e = .returned (.tuple #[]) ∧ OutS K R base (bs ++ putI f0 ++ putI f1) w' ∧ Fr K base w w') := fun K w h => outN_at K R base _ f1 k1 w h L1
  have L2 : (bs ++ putI f0 ++ putI f1).length ≤ 900000000000 := by
    have := putI_len f0 k0
    have := putI_len f1 k1
    simp only [List.length_append]; omega
  have P2 : Hid (∀ K w, OutS K R base (bs ++ putI f0 ++ putI f1) w → Calls Try.prog 120 #[.pointer (some ⟨R, 0, none⟩), .int .i64 f2] w fun e w' => e = .returned (.tuple #[]) ∧ OutS K R base (bs ++ putI f0 ++ putI f1 ++ putI f2) w' ∧ Fr K base w w') := fun K w h => outNum_at K R base _ f2 k2 w h L2
  rw [E.out]
  unfold opV
  simp only
  have BA := below_alloc w (.cells #[.int .i64 f0, .int .i64 f1, .int .i64 f2, .int .i64 f3, .int .i64 f4, .int .i64 f5, .string f6] 23)
  have BX0 := Blk.new 23 [.int .i64 f0, .int .i64 f1, .int .i64 f2, .int .i64 f3, .int .i64 f4, .int .i64 f5, .string f6] w
  have h0 := h.later BA
  have FR0 := h.fr BA
  have hR := h.lt
  have OW : Hid (∀ w', Below w.heap.size w w' → ∀ v, w'.cell? ⟨R, 0, none⟩ = some v → ∀ g, v.ownBlock = some g → g < w.heap.size) := fun w' hb => h.own hb
  clear h hm E hl k0 k1 k2 k3 k4 k5 k6 L0 L1 L2
  go_enter Try.func93, Try.ntmps93
  go_wp2_with fail
  refine (US.out _).mono ?_
  rintro e w2 ⟨rfl, b2⟩
  have bx2 := Blk.below BX0 b2
  have h2 := h0.later b2
  have FR2 := FR0.trans (h0.fr b2)
  have BA2 := below_trans BA b2
  clear BX0 h0 FR0 b2 BA
  have BU := Blk.new 120 [.bool false, .bool true, .bool true, .bool false, .bool false, .bool false, .bool false] w2
  have BAU := below_alloc w2 (.cells #[.bool false, .bool true, .bool true, .bool false, .bool false, .bool false, .bool false] 120)
  have bx := Blk.below bx2 BAU
  have h3 := h2.later BAU
  have FR3 := FR2.trans (h2.fr BAU)
  have OW3 := OW.out _ (below_trans BA2 BAU)
  have ltX := bx2.lt
  have cx0 := bx2.cell 0 _ rfl
  have sU : (w2.alloc (.cells #[.bool false, .bool true, .bool true, .bool false, .bool false, .bool false, .bool false] 120)).heap.size = w2.heap.size + 1 := by simp
  clear h2 FR2 BA2 BAU OW
  obtain ⟨X, hXe⟩ : ∃ X, w.heap.size = X := ⟨_, rfl⟩
  rw [hXe] at bx bx2 ltX cx0 hR OW3 ⊢
  go_wp2_with fail
  obtain ⟨U, hUe⟩ : ∃ U, w2.heap.size = U := ⟨_, rfl⟩
  rw [hUe] at BU ltX sU ⊢
  have KU : Blk U 120 [.bool false, .bool true, .bool true, .bool false, .bool false, .bool false, .bool false] (w2.alloc (.cells #[.bool false, .bool true, .bool true, .bool false, .bool false, .bool false, .bool false] 120)) := BU
  clear BU cx0 bx2 hUe
  generalize w2.alloc (.cells #[.bool false, .bool true, .bool true, .bool false, .bool false, .bool false, .bool false] 120) = W0 at *
  have O0 : OutS (fun g => K g ∨ g = X ∨ g = U) R base bs W0 := h3.more _ fun g hg => by
    rcases hg with hg | rfl | rfl
    · exact .inl hg
    · exact .inr ⟨by omega, by omega, fun v hv e => by have := OW3 v hv _ e; omega⟩
    · exact .inr ⟨by omega, by omega, fun v hv e => by have := OW3 v hv _ e; omega⟩
  clear h3 OW3 sU
  refine (P0.out _ _ O0).mono ?_
  rintro e u0 ⟨rfl, ob0, g0⟩
  have bx0 := Blk.fr bx g0 (.inr (.inl rfl))
  have bu0 := Blk.fr KU g0 (.inr (.inr rfl))
  have fr0 := FR3.trans (g0.less fun g hg => .inl hg)
  clear O0 FR3 bx KU g0
  have lu1 := bu0.cell 1 _ rfl
  have lu2 := bu0.cell 2 _ rfl
  have lu3 := bu0.cell 3 _ rfl
  have lu4 := bu0.cell 4 _ rfl
  have lu5 := bu0.cell 5 _ rfl
  have lu6 := bu0.cell 6 _ rfl
  have lx1 := bx0.cell 1 _ rfl
  go_wp2_with fail
  clear lu1 lu2 lu3 lu4 lu5 lu6 lx1
  refine (P1.out _ _ ob0).mono ?_
  rintro e u1 ⟨rfl, ob1, g1⟩
  have bx1 := Blk.fr bx0 g1 (.inr (.inl rfl))
  have bu1 := Blk.fr bu0 g1 (.inr (.inr rfl))
  have fr1 := fr0.trans (g1.less fun g hg => .inl hg)
  clear ob0 fr0 bx0 bu0 g1
  have lu2 := bu1.cell 2 _ rfl
  have lu3 := bu1.cell 3 _ rfl
  have lu4 := bu1.cell 4 _ rfl
  have lu5 := bu1.cell 5 _ rfl
  have lu6 := bu1.cell 6 _ rfl
  have lx2 := bx1.cell 2 _ rfl
  go_wp2_with fail
  clear lu2 lu3 lu4 lu5 lu6 lx2
  refine (P2.out _ _ ob1).mono ?_
  rintro e u2 ⟨rfl, ob2, g2⟩
  have bx2 := Blk.fr bx1 g2 (.inr (.inl rfl))
  have bu2 := Blk.fr bu1 g2 (.inr (.inr rfl))
  have fr2 := fr1.trans (g2.less fun g hg => .inl hg)
  clear ob1 fr1 bx1 bu1 g2
  have lu3 := bu2.cell 3 _ rfl
  have lu4 := bu2.cell 4 _ rfl
  have lu5 := bu2.cell 5 _ rfl
  have lu6 := bu2.cell 6 _ rfl
  go_wp2_with fail
  go_end0
  exact ⟨rfl, ob2.fewer (fun g hg => .inl hg), fr2⟩

set_option maxRecDepth 20000 in
set_option maxHeartbeats 1000000 in
theorem outOp_1 (K : Nat → Prop) (R base : Nat) (bs : List Nat) (o : OpV) (ok : o.Ok) (hm : fmask o.kind = some 1) (w : World) (h : OutS K R base bs w) (hl : bs.length ≤ 800000000000) :
    Calls Try.prog 93 #[.pointer (some ⟨R, 0, none⟩), opV o] w fun e w' => e = .returned (.tuple #[]) ∧ OutS K R base (bs ++ opL o) w' ∧ Fr K base w w' := by
  obtain ⟨f0, f1, f2, f3, f4, f5, f6⟩ := o
  obtain ⟨k0, k1, k2, k3, k4, k5, k6⟩ := ok
  have E : Hid (bs ++ opL ⟨f0, f1, f2, f3, f4, f5, f6⟩ = bs ++ putI f0 ++ putI f1) := by
    show _ = _
    unfold opL; rw [hm]; simp [opM]
  have US : Hid (∀ w, Calls Try.prog 68 #[.int .i64 f0] w fun e w' => e = .returned (.agg #[.bool false, .bool true, .bool false, .bool false, .bool false, .bool false, .bool false]) ∧ Below w.heap.size w w') := fun w => by
    have := uses_at f0 w
    rw [show fmask f0 = some 1 from hm] at this; exact this
  have L0 : (bs).length ≤ 900000000000 := by
    omega
  have P0 : Hid (∀ K w, OutS K R base (bs) w → Calls Try.prog 95 #[.pointer (some ⟨R, 0, none⟩), .int .i64 f0] w fun e w' => e = .returned (.tuple #[]) ∧ OutS K R base (bs ++ putI f0) w' ∧ Fr K base w w') := fun K w h => outN_at K R base _ f0 k0 w h L0
  have L1 : (bs ++ putI f0).length ≤ 900000000000 := by
    have := putI_len f0 k0
    simp only [List.length_append]; omega
  have P1 : Hid (∀ K w, OutS K R base (bs ++ putI f0) w → Calls Try.prog 95 #[.pointer (some ⟨R, 0, none⟩), .int .i64 f1] w fun e w' => e = .returned (.tuple #[]) ∧ OutS K R base (bs ++ putI f0 ++ putI f1) w' ∧ Fr K base w w') := fun K w h => outN_at K R base _ f1 k1 w h L1
  rw [E.out]
  unfold opV
  simp only
  have BA := below_alloc w (.cells #[.int .i64 f0, .int .i64 f1, .int .i64 f2, .int .i64 f3, .int .i64 f4, .int .i64 f5, .string f6] 23)
  have BX0 := Blk.new 23 [.int .i64 f0, .int .i64 f1, .int .i64 f2, .int .i64 f3, .int .i64 f4, .int .i64 f5, .string f6] w
  have h0 := h.later BA
  have FR0 := h.fr BA
  have hR := h.lt
  have OW : Hid (∀ w', Below w.heap.size w w' → ∀ v, w'.cell? ⟨R, 0, none⟩ = some v → ∀ g, v.ownBlock = some g → g < w.heap.size) := fun w' hb => h.own hb
  clear h hm E hl k0 k1 k2 k3 k4 k5 k6 L0 L1
  go_enter Try.func93, Try.ntmps93
  go_wp2_with fail
  refine (US.out _).mono ?_
  rintro e w2 ⟨rfl, b2⟩
  have bx2 := Blk.below BX0 b2
  have h2 := h0.later b2
  have FR2 := FR0.trans (h0.fr b2)
  have BA2 := below_trans BA b2
  clear BX0 h0 FR0 b2 BA
  have BU := Blk.new 120 [.bool false, .bool true, .bool false, .bool false, .bool false, .bool false, .bool false] w2
  have BAU := below_alloc w2 (.cells #[.bool false, .bool true, .bool false, .bool false, .bool false, .bool false, .bool false] 120)
  have bx := Blk.below bx2 BAU
  have h3 := h2.later BAU
  have FR3 := FR2.trans (h2.fr BAU)
  have OW3 := OW.out _ (below_trans BA2 BAU)
  have ltX := bx2.lt
  have cx0 := bx2.cell 0 _ rfl
  have sU : (w2.alloc (.cells #[.bool false, .bool true, .bool false, .bool false, .bool false, .bool false, .bool false] 120)).heap.size = w2.heap.size + 1 := by simp
  clear h2 FR2 BA2 BAU OW
  obtain ⟨X, hXe⟩ : ∃ X, w.heap.size = X := ⟨_, rfl⟩
  rw [hXe] at bx bx2 ltX cx0 hR OW3 ⊢
  go_wp2_with fail
  obtain ⟨U, hUe⟩ : ∃ U, w2.heap.size = U := ⟨_, rfl⟩
  rw [hUe] at BU ltX sU ⊢
  have KU : Blk U 120 [.bool false, .bool true, .bool false, .bool false, .bool false, .bool false, .bool false] (w2.alloc (.cells #[.bool false, .bool true, .bool false, .bool false, .bool false, .bool false, .bool false] 120)) := BU
  clear BU cx0 bx2 hUe
  generalize w2.alloc (.cells #[.bool false, .bool true, .bool false, .bool false, .bool false, .bool false, .bool false] 120) = W0 at *
  have O0 : OutS (fun g => K g ∨ g = X ∨ g = U) R base bs W0 := h3.more _ fun g hg => by
    rcases hg with hg | rfl | rfl
    · exact .inl hg
    · exact .inr ⟨by omega, by omega, fun v hv e => by have := OW3 v hv _ e; omega⟩
    · exact .inr ⟨by omega, by omega, fun v hv e => by have := OW3 v hv _ e; omega⟩
  clear h3 OW3 sU
  refine (P0.out _ _ O0).mono ?_
  rintro e u0 ⟨rfl, ob0, g0⟩
  have bx0 := Blk.fr bx g0 (.inr (.inl rfl))
  have bu0 := Blk.fr KU g0 (.inr (.inr rfl))
  have fr0 := FR3.trans (g0.less fun g hg => .inl hg)
  clear O0 FR3 bx KU g0
  have lu1 := bu0.cell 1 _ rfl
  have lu2 := bu0.cell 2 _ rfl
  have lu3 := bu0.cell 3 _ rfl
  have lu4 := bu0.cell 4 _ rfl
  have lu5 := bu0.cell 5 _ rfl
  have lu6 := bu0.cell 6 _ rfl
  have lx1 := bx0.cell 1 _ rfl
  go_wp2_with fail
  clear lu1 lu2 lu3 lu4 lu5 lu6 lx1
  refine (P1.out _ _ ob0).mono ?_
  rintro e u1 ⟨rfl, ob1, g1⟩
  have bx1 := Blk.fr bx0 g1 (.inr (.inl rfl))
  have bu1 := Blk.fr bu0 g1 (.inr (.inr rfl))
  have fr1 := fr0.trans (g1.less fun g hg => .inl hg)
  clear ob0 fr0 bx0 bu0 g1
  have lu2 := bu1.cell 2 _ rfl
  have lu3 := bu1.cell 3 _ rfl
  have lu4 := bu1.cell 4 _ rfl
  have lu5 := bu1.cell 5 _ rfl
  have lu6 := bu1.cell 6 _ rfl
  go_wp2_with fail
  go_end0
  exact ⟨rfl, ob1.fewer (fun g hg => .inl hg), fr1⟩

set_option maxRecDepth 20000 in
set_option maxHeartbeats 1000000 in
theorem outOp_19 (K : Nat → Prop) (R base : Nat) (bs : List Nat) (o : OpV) (ok : o.Ok) (hm : fmask o.kind = some 19) (w : World) (h : OutS K R base bs w) (hl : bs.length ≤ 800000000000) :
    Calls Try.prog 93 #[.pointer (some ⟨R, 0, none⟩), opV o] w fun e w' => e = .returned (.tuple #[]) ∧ OutS K R base (bs ++ opL o) w' ∧ Fr K base w w' := by
  obtain ⟨f0, f1, f2, f3, f4, f5, f6⟩ := o
  obtain ⟨k0, k1, k2, k3, k4, k5, k6⟩ := ok
  have E : Hid (bs ++ opL ⟨f0, f1, f2, f3, f4, f5, f6⟩ = bs ++ putI f0 ++ putI f1 ++ putI f2 ++ putI f5) := by
    show _ = _
    unfold opL; rw [hm]; simp [opM]
  have US : Hid (∀ w, Calls Try.prog 68 #[.int .i64 f0] w fun e w' => e = .returned (.agg #[.bool false, .bool true, .bool true, .bool false, .bool false, .bool true, .bool false]) ∧ Below w.heap.size w w') := fun w => by
    have := uses_at f0 w
    rw [show fmask f0 = some 19 from hm] at this; exact this
  have L0 : (bs).length ≤ 900000000000 := by
    omega
  have P0 : Hid (∀ K w, OutS K R base (bs) w → Calls Try.prog 95 #[.pointer (some ⟨R, 0, none⟩), .int .i64 f0] w fun e w' => e = .returned (.tuple #[]) ∧ OutS K R base (bs ++ putI f0) w' ∧ Fr K base w w') := fun K w h => outN_at K R base _ f0 k0 w h L0
  have L1 : (bs ++ putI f0).length ≤ 900000000000 := by
    have := putI_len f0 k0
    simp only [List.length_append]; omega
  have P1 : Hid (∀ K w, OutS K R base (bs ++ putI f0) w → Calls Try.prog 95 #[.pointer (some ⟨R, 0, none⟩), .int .i64 f1] w fun e w' => e = .returned (.tuple #[]) ∧ OutS K R base (bs ++ putI f0 ++ putI f1) w' ∧ Fr K base w w') := fun K w h => outN_at K R base _ f1 k1 w h L1
  have L2 : (bs ++ putI f0 ++ putI f1).length ≤ 900000000000 := by
    have := putI_len f0 k0
    have := putI_len f1 k1
    simp only [List.length_append]; omega
  have P2 : Hid (∀ K w, OutS K R base (bs ++ putI f0 ++ putI f1) w → Calls Try.prog 120 #[.pointer (some ⟨R, 0, none⟩), .int .i64 f2] w fun e w' => e = .returned (.tuple #[]) ∧ OutS K R base (bs ++ putI f0 ++ putI f1 ++ putI f2) w' ∧ Fr K base w w') := fun K w h => outNum_at K R base _ f2 k2 w h L2
  have L5 : (bs ++ putI f0 ++ putI f1 ++ putI f2).length ≤ 900000000000 := by
    have := putI_len f0 k0
    have := putI_len f1 k1
    have := putI_len f2 k2
    simp only [List.length_append]; omega
  have P5 : Hid (∀ K w, OutS K R base (bs ++ putI f0 ++ putI f1 ++ putI f2) w → Calls Try.prog 95 #[.pointer (some ⟨R, 0, none⟩), .int .i64 f5] w fun e w' => e = .returned (.tuple #[]) ∧ OutS K R base (bs ++ putI f0 ++ putI f1 ++ putI f2 ++ putI f5) w' ∧ Fr K base w w') := fun K w h => outN_at K R base _ f5 k5 w h L5
  rw [E.out]
  unfold opV
  simp only
  have BA := below_alloc w (.cells #[.int .i64 f0, .int .i64 f1, .int .i64 f2, .int .i64 f3, .int .i64 f4, .int .i64 f5, .string f6] 23)
  have BX0 := Blk.new 23 [.int .i64 f0, .int .i64 f1, .int .i64 f2, .int .i64 f3, .int .i64 f4, .int .i64 f5, .string f6] w
  have h0 := h.later BA
  have FR0 := h.fr BA
  have hR := h.lt
  have OW : Hid (∀ w', Below w.heap.size w w' → ∀ v, w'.cell? ⟨R, 0, none⟩ = some v → ∀ g, v.ownBlock = some g → g < w.heap.size) := fun w' hb => h.own hb
  clear h hm E hl k0 k1 k2 k3 k4 k5 k6 L0 L1 L2 L5
  go_enter Try.func93, Try.ntmps93
  go_wp2_with fail
  refine (US.out _).mono ?_
  rintro e w2 ⟨rfl, b2⟩
  have bx2 := Blk.below BX0 b2
  have h2 := h0.later b2
  have FR2 := FR0.trans (h0.fr b2)
  have BA2 := below_trans BA b2
  clear BX0 h0 FR0 b2 BA
  have BU := Blk.new 120 [.bool false, .bool true, .bool true, .bool false, .bool false, .bool true, .bool false] w2
  have BAU := below_alloc w2 (.cells #[.bool false, .bool true, .bool true, .bool false, .bool false, .bool true, .bool false] 120)
  have bx := Blk.below bx2 BAU
  have h3 := h2.later BAU
  have FR3 := FR2.trans (h2.fr BAU)
  have OW3 := OW.out _ (below_trans BA2 BAU)
  have ltX := bx2.lt
  have cx0 := bx2.cell 0 _ rfl
  have sU : (w2.alloc (.cells #[.bool false, .bool true, .bool true, .bool false, .bool false, .bool true, .bool false] 120)).heap.size = w2.heap.size + 1 := by simp
  clear h2 FR2 BA2 BAU OW
  obtain ⟨X, hXe⟩ : ∃ X, w.heap.size = X := ⟨_, rfl⟩
  rw [hXe] at bx bx2 ltX cx0 hR OW3 ⊢
  go_wp2_with fail
  obtain ⟨U, hUe⟩ : ∃ U, w2.heap.size = U := ⟨_, rfl⟩
  rw [hUe] at BU ltX sU ⊢
  have KU : Blk U 120 [.bool false, .bool true, .bool true, .bool false, .bool false, .bool true, .bool false] (w2.alloc (.cells #[.bool false, .bool true, .bool true, .bool false, .bool false, .bool true, .bool false] 120)) := BU
  clear BU cx0 bx2 hUe
  generalize w2.alloc (.cells #[.bool false, .bool true, .bool true, .bool false, .bool false, .bool true, .bool false] 120) = W0 at *
  have O0 : OutS (fun g => K g ∨ g = X ∨ g = U) R base bs W0 := h3.more _ fun g hg => by
    rcases hg with hg | rfl | rfl
    · exact .inl hg
    · exact .inr ⟨by omega, by omega, fun v hv e => by have := OW3 v hv _ e; omega⟩
    · exact .inr ⟨by omega, by omega, fun v hv e => by have := OW3 v hv _ e; omega⟩
  clear h3 OW3 sU
  refine (P0.out _ _ O0).mono ?_
  rintro e u0 ⟨rfl, ob0, g0⟩
  have bx0 := Blk.fr bx g0 (.inr (.inl rfl))
  have bu0 := Blk.fr KU g0 (.inr (.inr rfl))
  have fr0 := FR3.trans (g0.less fun g hg => .inl hg)
  clear O0 FR3 bx KU g0
  have lu1 := bu0.cell 1 _ rfl
  have lu2 := bu0.cell 2 _ rfl
  have lu3 := bu0.cell 3 _ rfl
  have lu4 := bu0.cell 4 _ rfl
  have lu5 := bu0.cell 5 _ rfl
  have lu6 := bu0.cell 6 _ rfl
  have lx1 := bx0.cell 1 _ rfl
  go_wp2_with fail
  clear lu1 lu2 lu3 lu4 lu5 lu6 lx1
  refine (P1.out _ _ ob0).mono ?_
  rintro e u1 ⟨rfl, ob1, g1⟩
  have bx1 := Blk.fr bx0 g1 (.inr (.inl rfl))
  have bu1 := Blk.fr bu0 g1 (.inr (.inr rfl))
  have fr1 := fr0.trans (g1.less fun g hg => .inl hg)
  clear ob0 fr0 bx0 bu0 g1
  have lu2 := bu1.cell 2 _ rfl
  have lu3 := bu1.cell 3 _ rfl
  have lu4 := bu1.cell 4 _ rfl
  have lu5 := bu1.cell 5 _ rfl
  have lu6 := bu1.cell 6 _ rfl
  have lx2 := bx1.cell 2 _ rfl
  go_wp2_with fail
  clear lu2 lu3 lu4 lu5 lu6 lx2
  refine (P2.out _ _ ob1).mono ?_
  rintro e u2 ⟨rfl, ob2, g2⟩
  have bx2 := Blk.fr bx1 g2 (.inr (.inl rfl))
  have bu2 := Blk.fr bu1 g2 (.inr (.inr rfl))
  have fr2 := fr1.trans (g2.less fun g hg => .inl hg)
  clear ob1 fr1 bx1 bu1 g2
  have lu3 := bu2.cell 3 _ rfl
  have lu4 := bu2.cell 4 _ rfl
  have lu5 := bu2.cell 5 _ rfl
  have lu6 := bu2.cell 6 _ rfl
  have lx5 := bx2.cell 5 _ rfl
  go_wp2_with fail
  clear lu3 lu4 lu5 lu6 lx5
  refine (P5.out _ _ ob2).mono ?_
  rintro e u5 ⟨rfl, ob5, g5⟩
  have bx5 := Blk.fr bx2 g5 (.inr (.inl rfl))
  have bu5 := Blk.fr bu2 g5 (.inr (.inr rfl))
  have fr5 := fr2.trans (g5.less fun g hg => .inl hg)
  clear ob2 fr2 bx2 bu2 g5
  have lu6 := bu5.cell 6 _ rfl
  go_wp2_with fail
  go_end0
  exact ⟨rfl, ob5.fewer (fun g hg => .inl hg), fr5⟩

set_option maxRecDepth 20000 in
set_option maxHeartbeats 1000000 in
theorem outOp_13 (K : Nat → Prop) (R base : Nat) (bs : List Nat) (o : OpV) (ok : o.Ok) (hm : fmask o.kind = some 13) (w : World) (h : OutS K R base bs w) (hl : bs.length ≤ 800000000000) :
    Calls Try.prog 93 #[.pointer (some ⟨R, 0, none⟩), opV o] w fun e w' => e = .returned (.tuple #[]) ∧ OutS K R base (bs ++ opL o) w' ∧ Fr K base w w' := by
  obtain ⟨f0, f1, f2, f3, f4, f5, f6⟩ := o
  obtain ⟨k0, k1, k2, k3, k4, k5, k6⟩ := ok
  have E : Hid (bs ++ opL ⟨f0, f1, f2, f3, f4, f5, f6⟩ = bs ++ putI f0 ++ putI f1 ++ putI f3 ++ putI f4) := by
    show _ = _
    unfold opL; rw [hm]; simp [opM]
  have US : Hid (∀ w, Calls Try.prog 68 #[.int .i64 f0] w fun e w' => e = .returned (.agg #[.bool false, .bool true, .bool false, .bool true, .bool true, .bool false, .bool false]) ∧ Below w.heap.size w w') := fun w => by
    have := uses_at f0 w
    rw [show fmask f0 = some 13 from hm] at this; exact this
  have L0 : (bs).length ≤ 900000000000 := by
    omega
  have P0 : Hid (∀ K w, OutS K R base (bs) w → Calls Try.prog 95 #[.pointer (some ⟨R, 0, none⟩), .int .i64 f0] w fun e w' => e = .returned (.tuple #[]) ∧ OutS K R base (bs ++ putI f0) w' ∧ Fr K base w w') := fun K w h => outN_at K R base _ f0 k0 w h L0
  have L1 : (bs ++ putI f0).length ≤ 900000000000 := by
    have := putI_len f0 k0
    simp only [List.length_append]; omega
  have P1 : Hid (∀ K w, OutS K R base (bs ++ putI f0) w → Calls Try.prog 95 #[.pointer (some ⟨R, 0, none⟩), .int .i64 f1] w fun e w' => e = .returned (.tuple #[]) ∧ OutS K R base (bs ++ putI f0 ++ putI f1) w' ∧ Fr K base w w') := fun K w h => outN_at K R base _ f1 k1 w h L1
  have L3 : (bs ++ putI f0 ++ putI f1).length ≤ 900000000000 := by
    have := putI_len f0 k0
    have := putI_len f1 k1
    simp only [List.length_append]; omega
  have P3 : Hid (∀ K w, OutS K R base (bs ++ putI f0 ++ putI f1) w → Calls Try.prog 120 #[.pointer (some ⟨R, 0, none⟩), .int .i64 f3] w fun e w' => e = .returned (.tuple #[]) ∧ OutS K R base (bs ++ putI f0 ++ putI f1 ++ putI f3) w' ∧ Fr K base w w') := fun K w h => outNum_at K R base _ f3 k3 w h L3
  have L4 : (bs ++ putI f0 ++ putI f1 ++ putI f3).length ≤ 900000000000 := by
    have := putI_len f0 k0
    have := putI_len f1 k1
    have := putI_len f3 k3
    simp only [List.length_append]; omega
  have P4 : Hid (∀ K w, OutS K R base (bs ++ putI f0 ++ putI f1 ++ putI f3) w → Calls Try.prog 95 #[.pointer (some ⟨R, 0, none⟩), .int .i64 f4] w fun e w' => e = .returned (.tuple #[]) ∧ OutS K R base (bs ++ putI f0 ++ putI f1 ++ putI f3 ++ putI f4) w' ∧ Fr K base w w') := fun K w h => outN_at K R base _ f4 k4 w h L4
  rw [E.out]
  unfold opV
  simp only
  have BA := below_alloc w (.cells #[.int .i64 f0, .int .i64 f1, .int .i64 f2, .int .i64 f3, .int .i64 f4, .int .i64 f5, .string f6] 23)
  have BX0 := Blk.new 23 [.int .i64 f0, .int .i64 f1, .int .i64 f2, .int .i64 f3, .int .i64 f4, .int .i64 f5, .string f6] w
  have h0 := h.later BA
  have FR0 := h.fr BA
  have hR := h.lt
  have OW : Hid (∀ w', Below w.heap.size w w' → ∀ v, w'.cell? ⟨R, 0, none⟩ = some v → ∀ g, v.ownBlock = some g → g < w.heap.size) := fun w' hb => h.own hb
  clear h hm E hl k0 k1 k2 k3 k4 k5 k6 L0 L1 L3 L4
  go_enter Try.func93, Try.ntmps93
  go_wp2_with fail
  refine (US.out _).mono ?_
  rintro e w2 ⟨rfl, b2⟩
  have bx2 := Blk.below BX0 b2
  have h2 := h0.later b2
  have FR2 := FR0.trans (h0.fr b2)
  have BA2 := below_trans BA b2
  clear BX0 h0 FR0 b2 BA
  have BU := Blk.new 120 [.bool false, .bool true, .bool false, .bool true, .bool true, .bool false, .bool false] w2
  have BAU := below_alloc w2 (.cells #[.bool false, .bool true, .bool false, .bool true, .bool true, .bool false, .bool false] 120)
  have bx := Blk.below bx2 BAU
  have h3 := h2.later BAU
  have FR3 := FR2.trans (h2.fr BAU)
  have OW3 := OW.out _ (below_trans BA2 BAU)
  have ltX := bx2.lt
  have cx0 := bx2.cell 0 _ rfl
  have sU : (w2.alloc (.cells #[.bool false, .bool true, .bool false, .bool true, .bool true, .bool false, .bool false] 120)).heap.size = w2.heap.size + 1 := by simp
  clear h2 FR2 BA2 BAU OW
  obtain ⟨X, hXe⟩ : ∃ X, w.heap.size = X := ⟨_, rfl⟩
  rw [hXe] at bx bx2 ltX cx0 hR OW3 ⊢
  go_wp2_with fail
  obtain ⟨U, hUe⟩ : ∃ U, w2.heap.size = U := ⟨_, rfl⟩
  rw [hUe] at BU ltX sU ⊢
  have KU : Blk U 120 [.bool false, .bool true, .bool false, .bool true, .bool true, .bool false, .bool false] (w2.alloc (.cells #[.bool false, .bool true, .bool false, .bool true, .bool true, .bool false, .bool false] 120)) := BU
  clear BU cx0 bx2 hUe
  generalize w2.alloc (.cells #[.bool false, .bool true, .bool false, .bool true, .bool true, .bool false, .bool false] 120) = W0 at *
  have O0 : OutS (fun g => K g ∨ g = X ∨ g = U) R base bs W0 := h3.more _ fun g hg => by
    rcases hg with hg | rfl | rfl
    · exact .inl hg
    · exact .inr ⟨by omega, by omega, fun v hv e => by have := OW3 v hv _ e; omega⟩
    · exact .inr ⟨by omega, by omega, fun v hv e => by have := OW3 v hv _ e; omega⟩
  clear h3 OW3 sU
  refine (P0.out _ _ O0).mono ?_
  rintro e u0 ⟨rfl, ob0, g0⟩
  have bx0 := Blk.fr bx g0 (.inr (.inl rfl))
  have bu0 := Blk.fr KU g0 (.inr (.inr rfl))
  have fr0 := FR3.trans (g0.less fun g hg => .inl hg)
  clear O0 FR3 bx KU g0
  have lu1 := bu0.cell 1 _ rfl
  have lu2 := bu0.cell 2 _ rfl
  have lu3 := bu0.cell 3 _ rfl
  have lu4 := bu0.cell 4 _ rfl
  have lu5 := bu0.cell 5 _ rfl
  have lu6 := bu0.cell 6 _ rfl
  have lx1 := bx0.cell 1 _ rfl
  go_wp2_with fail
  clear lu1 lu2 lu3 lu4 lu5 lu6 lx1
  refine (P1.out _ _ ob0).mono ?_
  rintro e u1 ⟨rfl, ob1, g1⟩
  have bx1 := Blk.fr bx0 g1 (.inr (.inl rfl))
  have bu1 := Blk.fr bu0 g1 (.inr (.inr rfl))
  have fr1 := fr0.trans (g1.less fun g hg => .inl hg)
  clear ob0 fr0 bx0 bu0 g1
  have lu2 := bu1.cell 2 _ rfl
  have lu3 := bu1.cell 3 _ rfl
  have lu4 := bu1.cell 4 _ rfl
  have lu5 := bu1.cell 5 _ rfl
  have lu6 := bu1.cell 6 _ rfl
  have lx3 := bx1.cell 3 _ rfl
  go_wp2_with fail
  clear lu2 lu3 lu4 lu5 lu6 lx3
  refine (P3.out _ _ ob1).mono ?_
  rintro e u3 ⟨rfl, ob3, g3⟩
  have bx3 := Blk.fr bx1 g3 (.inr (.inl rfl))
  have bu3 := Blk.fr bu1 g3 (.inr (.inr rfl))
  have fr3 := fr1.trans (g3.less fun g hg => .inl hg)
  clear ob1 fr1 bx1 bu1 g3
  have lu4 := bu3.cell 4 _ rfl
  have lu5 := bu3.cell 5 _ rfl
  have lu6 := bu3.cell 6 _ rfl
  have lx4 := bx3.cell 4 _ rfl
  go_wp2_with fail
  clear lu4 lu5 lu6 lx4
  refine (P4.out _ _ ob3).mono ?_
  rintro e u4 ⟨rfl, ob4, g4⟩
  have bx4 := Blk.fr bx3 g4 (.inr (.inl rfl))
  have bu4 := Blk.fr bu3 g4 (.inr (.inr rfl))
  have fr4 := fr3.trans (g4.less fun g hg => .inl hg)
  clear ob3 fr3 bx3 bu3 g4
  have lu5 := bu4.cell 5 _ rfl
  have lu6 := bu4.cell 6 _ rfl
  go_wp2_with fail
  go_end0
  exact ⟨rfl, ob4.fewer (fun g hg => .inl hg), fr4⟩

set_option maxRecDepth 20000 in
set_option maxHeartbeats 1000000 in
theorem outOp_16 (K : Nat → Prop) (R base : Nat) (bs : List Nat) (o : OpV) (ok : o.Ok) (hm : fmask o.kind = some 16) (w : World) (h : OutS K R base bs w) (hl : bs.length ≤ 800000000000) :
    Calls Try.prog 93 #[.pointer (some ⟨R, 0, none⟩), opV o] w fun e w' => e = .returned (.tuple #[]) ∧ OutS K R base (bs ++ opL o) w' ∧ Fr K base w w' := by
  obtain ⟨f0, f1, f2, f3, f4, f5, f6⟩ := o
  obtain ⟨k0, k1, k2, k3, k4, k5, k6⟩ := ok
  have E : Hid (bs ++ opL ⟨f0, f1, f2, f3, f4, f5, f6⟩ = bs ++ putI f0 ++ putI f5) := by
    show _ = _
    unfold opL; rw [hm]; simp [opM]
  have US : Hid (∀ w, Calls Try.prog 68 #[.int .i64 f0] w fun e w' => e = .returned (.agg #[.bool false, .bool false, .bool false, .bool false, .bool false, .bool true, .bool false]) ∧ Below w.heap.size w w') := fun w => by
    have := uses_at f0 w
    rw [show fmask f0 = some 16 from hm] at this; exact this
  have L0 : (bs).length ≤ 900000000000 := by
    omega
  have P0 : Hid (∀ K w, OutS K R base (bs) w → Calls Try.prog 95 #[.pointer (some ⟨R, 0, none⟩), .int .i64 f0] w fun e w' => e = .returned (.tuple #[]) ∧ OutS K R base (bs ++ putI f0) w' ∧ Fr K base w w') := fun K w h => outN_at K R base _ f0 k0 w h L0
  have L5 : (bs ++ putI f0).length ≤ 900000000000 := by
    have := putI_len f0 k0
    simp only [List.length_append]; omega
  have P5 : Hid (∀ K w, OutS K R base (bs ++ putI f0) w → Calls Try.prog 95 #[.pointer (some ⟨R, 0, none⟩), .int .i64 f5] w fun e w' => e = .returned (.tuple #[]) ∧ OutS K R base (bs ++ putI f0 ++ putI f5) w' ∧ Fr K base w w') := fun K w h => outN_at K R base _ f5 k5 w h L5
  rw [E.out]
  unfold opV
  simp only
  have BA := below_alloc w (.cells #[.int .i64 f0, .int .i64 f1, .int .i64 f2, .int .i64 f3, .int .i64 f4, .int .i64 f5, .string f6] 23)
  have BX0 := Blk.new 23 [.int .i64 f0, .int .i64 f1, .int .i64 f2, .int .i64 f3, .int .i64 f4, .int .i64 f5, .string f6] w
  have h0 := h.later BA
  have FR0 := h.fr BA
  have hR := h.lt
  have OW : Hid (∀ w', Below w.heap.size w w' → ∀ v, w'.cell? ⟨R, 0, none⟩ = some v → ∀ g, v.ownBlock = some g → g < w.heap.size) := fun w' hb => h.own hb
  clear h hm E hl k0 k1 k2 k3 k4 k5 k6 L0 L5
  go_enter Try.func93, Try.ntmps93
  go_wp2_with fail
  refine (US.out _).mono ?_
  rintro e w2 ⟨rfl, b2⟩
  have bx2 := Blk.below BX0 b2
  have h2 := h0.later b2
  have FR2 := FR0.trans (h0.fr b2)
  have BA2 := below_trans BA b2
  clear BX0 h0 FR0 b2 BA
  have BU := Blk.new 120 [.bool false, .bool false, .bool false, .bool false, .bool false, .bool true, .bool false] w2
  have BAU := below_alloc w2 (.cells #[.bool false, .bool false, .bool false, .bool false, .bool false, .bool true, .bool false] 120)
  have bx := Blk.below bx2 BAU
  have h3 := h2.later BAU
  have FR3 := FR2.trans (h2.fr BAU)
  have OW3 := OW.out _ (below_trans BA2 BAU)
  have ltX := bx2.lt
  have cx0 := bx2.cell 0 _ rfl
  have sU : (w2.alloc (.cells #[.bool false, .bool false, .bool false, .bool false, .bool false, .bool true, .bool false] 120)).heap.size = w2.heap.size + 1 := by simp
  clear h2 FR2 BA2 BAU OW
  obtain ⟨X, hXe⟩ : ∃ X, w.heap.size = X := ⟨_, rfl⟩
  rw [hXe] at bx bx2 ltX cx0 hR OW3 ⊢
  go_wp2_with fail
  obtain ⟨U, hUe⟩ : ∃ U, w2.heap.size = U := ⟨_, rfl⟩
  rw [hUe] at BU ltX sU ⊢
  have KU : Blk U 120 [.bool false, .bool false, .bool false, .bool false, .bool false, .bool true, .bool false] (w2.alloc (.cells #[.bool false, .bool false, .bool false, .bool false, .bool false, .bool true, .bool false] 120)) := BU
  clear BU cx0 bx2 hUe
  generalize w2.alloc (.cells #[.bool false, .bool false, .bool false, .bool false, .bool false, .bool true, .bool false] 120) = W0 at *
  have O0 : OutS (fun g => K g ∨ g = X ∨ g = U) R base bs W0 := h3.more _ fun g hg => by
    rcases hg with hg | rfl | rfl
    · exact .inl hg
    · exact .inr ⟨by omega, by omega, fun v hv e => by have := OW3 v hv _ e; omega⟩
    · exact .inr ⟨by omega, by omega, fun v hv e => by have := OW3 v hv _ e; omega⟩
  clear h3 OW3 sU
  refine (P0.out _ _ O0).mono ?_
  rintro e u0 ⟨rfl, ob0, g0⟩
  have bx0 := Blk.fr bx g0 (.inr (.inl rfl))
  have bu0 := Blk.fr KU g0 (.inr (.inr rfl))
  have fr0 := FR3.trans (g0.less fun g hg => .inl hg)
  clear O0 FR3 bx KU g0
  have lu1 := bu0.cell 1 _ rfl
  have lu2 := bu0.cell 2 _ rfl
  have lu3 := bu0.cell 3 _ rfl
  have lu4 := bu0.cell 4 _ rfl
  have lu5 := bu0.cell 5 _ rfl
  have lu6 := bu0.cell 6 _ rfl
  have lx5 := bx0.cell 5 _ rfl
  go_wp2_with fail
  clear lu1 lu2 lu3 lu4 lu5 lu6 lx5
  refine (P5.out _ _ ob0).mono ?_
  rintro e u5 ⟨rfl, ob5, g5⟩
  have bx5 := Blk.fr bx0 g5 (.inr (.inl rfl))
  have bu5 := Blk.fr bu0 g5 (.inr (.inr rfl))
  have fr5 := fr0.trans (g5.less fun g hg => .inl hg)
  clear ob0 fr0 bx0 bu0 g5
  have lu6 := bu5.cell 6 _ rfl
  go_wp2_with fail
  go_end0
  exact ⟨rfl, ob5.fewer (fun g hg => .inl hg), fr5⟩

set_option maxRecDepth 20000 in
set_option maxHeartbeats 1000000 in
theorem outOp_32 (K : Nat → Prop) (R base : Nat) (bs : List Nat) (o : OpV) (ok : o.Ok) (hm : fmask o.kind = some 32) (w : World) (h : OutS K R base bs w) (hl : bs.length ≤ 800000000000) :
    Calls Try.prog 93 #[.pointer (some ⟨R, 0, none⟩), opV o] w fun e w' => e = .returned (.tuple #[]) ∧ OutS K R base (bs ++ opL o) w' ∧ Fr K base w w' := by
  obtain ⟨f0, f1, f2, f3, f4, f5, f6⟩ := o
  obtain ⟨k0, k1, k2, k3, k4, k5, k6⟩ := ok
  have E : Hid (bs ++ opL ⟨f0, f1, f2, f3, f4, f5, f6⟩ = bs ++ putI f0 ++ putT (sB f6)) := by
    show _ = _
    unfold opL; rw [hm]; simp [opM]
  have US : Hid (∀ w, Calls Try.prog 68 #[.int .i64 f0] w fun e w' => e = .returned (.agg #[.bool false, .bool false, .bool false, .bool false, .bool false, .bool false, .bool true]) ∧ Below w.heap.size w w') := fun w => by
    have := uses_at f0 w
    rw [show fmask f0 = some 32 from hm] at this; exact this
  have L0 : (bs).length ≤ 900000000000 := by
    omega
  have P0 : Hid (∀ K w, OutS K R base (bs) w → Calls Try.prog 95 #[.pointer (some ⟨R, 0, none⟩), .int .i64 f0] w fun e w' => e = .returned (.tuple #[]) ∧ OutS K R base (bs ++ putI f0) w' ∧ Fr K base w w') := fun K w h => outN_at K R base _ f0 k0 w h L0
  have L6 : (bs ++ putI f0).length ≤ 900000000000 := by
    have := putI_len f0 k0
    simp only [List.length_append]; omega
  have P6 : Hid (∀ K w, OutS K R base (bs ++ putI f0) w → Calls Try.prog 121 #[.pointer (some ⟨R, 0, none⟩), .string f6] w fun e w' => e = .returned (.tuple #[]) ∧ OutS K R base (bs ++ putI f0 ++ putT (sB f6)) w' ∧ Fr K base w w') := fun K w h => outText_at K R base _ f6 k6 w h L6
  rw [E.out]
  unfold opV
  simp only
  have BA := below_alloc w (.cells #[.int .i64 f0, .int .i64 f1, .int .i64 f2, .int .i64 f3, .int .i64 f4, .int .i64 f5, .string f6] 23)
  have BX0 := Blk.new 23 [.int .i64 f0, .int .i64 f1, .int .i64 f2, .int .i64 f3, .int .i64 f4, .int .i64 f5, .string f6] w
  have h0 := h.later BA
  have FR0 := h.fr BA
  have hR := h.lt
  have OW : Hid (∀ w', Below w.heap.size w w' → ∀ v, w'.cell? ⟨R, 0, none⟩ = some v → ∀ g, v.ownBlock = some g → g < w.heap.size) := fun w' hb => h.own hb
  clear h hm E hl k0 k1 k2 k3 k4 k5 k6 L0 L6
  go_enter Try.func93, Try.ntmps93
  go_wp2_with fail
  refine (US.out _).mono ?_
  rintro e w2 ⟨rfl, b2⟩
  have bx2 := Blk.below BX0 b2
  have h2 := h0.later b2
  have FR2 := FR0.trans (h0.fr b2)
  have BA2 := below_trans BA b2
  clear BX0 h0 FR0 b2 BA
  have BU := Blk.new 120 [.bool false, .bool false, .bool false, .bool false, .bool false, .bool false, .bool true] w2
  have BAU := below_alloc w2 (.cells #[.bool false, .bool false, .bool false, .bool false, .bool false, .bool false, .bool true] 120)
  have bx := Blk.below bx2 BAU
  have h3 := h2.later BAU
  have FR3 := FR2.trans (h2.fr BAU)
  have OW3 := OW.out _ (below_trans BA2 BAU)
  have ltX := bx2.lt
  have cx0 := bx2.cell 0 _ rfl
  have sU : (w2.alloc (.cells #[.bool false, .bool false, .bool false, .bool false, .bool false, .bool false, .bool true] 120)).heap.size = w2.heap.size + 1 := by simp
  clear h2 FR2 BA2 BAU OW
  obtain ⟨X, hXe⟩ : ∃ X, w.heap.size = X := ⟨_, rfl⟩
  rw [hXe] at bx bx2 ltX cx0 hR OW3 ⊢
  go_wp2_with fail
  obtain ⟨U, hUe⟩ : ∃ U, w2.heap.size = U := ⟨_, rfl⟩
  rw [hUe] at BU ltX sU ⊢
  have KU : Blk U 120 [.bool false, .bool false, .bool false, .bool false, .bool false, .bool false, .bool true] (w2.alloc (.cells #[.bool false, .bool false, .bool false, .bool false, .bool false, .bool false, .bool true] 120)) := BU
  clear BU cx0 bx2 hUe
  generalize w2.alloc (.cells #[.bool false, .bool false, .bool false, .bool false, .bool false, .bool false, .bool true] 120) = W0 at *
  have O0 : OutS (fun g => K g ∨ g = X ∨ g = U) R base bs W0 := h3.more _ fun g hg => by
    rcases hg with hg | rfl | rfl
    · exact .inl hg
    · exact .inr ⟨by omega, by omega, fun v hv e => by have := OW3 v hv _ e; omega⟩
    · exact .inr ⟨by omega, by omega, fun v hv e => by have := OW3 v hv _ e; omega⟩
  clear h3 OW3 sU
  refine (P0.out _ _ O0).mono ?_
  rintro e u0 ⟨rfl, ob0, g0⟩
  have bx0 := Blk.fr bx g0 (.inr (.inl rfl))
  have bu0 := Blk.fr KU g0 (.inr (.inr rfl))
  have fr0 := FR3.trans (g0.less fun g hg => .inl hg)
  clear O0 FR3 bx KU g0
  have lu1 := bu0.cell 1 _ rfl
  have lu2 := bu0.cell 2 _ rfl
  have lu3 := bu0.cell 3 _ rfl
  have lu4 := bu0.cell 4 _ rfl
  have lu5 := bu0.cell 5 _ rfl
  have lu6 := bu0.cell 6 _ rfl
  have lx6 := bx0.cell 6 _ rfl
  go_wp2_with fail
  clear lu1 lu2 lu3 lu4 lu5 lu6 lx6
  refine (P6.out _ _ ob0).mono ?_
  rintro e u6 ⟨rfl, ob6, g6⟩
  have bx6 := Blk.fr bx0 g6 (.inr (.inl rfl))
  have bu6 := Blk.fr bu0 g6 (.inr (.inr rfl))
  have fr6 := fr0.trans (g6.less fun g hg => .inl hg)
  clear ob0 fr0 bx0 bu0 g6
  go_wp2_with fail
  go_end0
  exact ⟨rfl, ob6.fewer (fun g hg => .inl hg), fr6⟩

set_option maxRecDepth 20000 in
set_option maxHeartbeats 1000000 in
theorem outOp_24 (K : Nat → Prop) (R base : Nat) (bs : List Nat) (o : OpV) (ok : o.Ok) (hm : fmask o.kind = some 24) (w : World) (h : OutS K R base bs w) (hl : bs.length ≤ 800000000000) :
    Calls Try.prog 93 #[.pointer (some ⟨R, 0, none⟩), opV o] w fun e w' => e = .returned (.tuple #[]) ∧ OutS K R base (bs ++ opL o) w' ∧ Fr K base w w' := by
  obtain ⟨f0, f1, f2, f3, f4, f5, f6⟩ := o
  obtain ⟨k0, k1, k2, k3, k4, k5, k6⟩ := ok
  have E : Hid (bs ++ opL ⟨f0, f1, f2, f3, f4, f5, f6⟩ = bs ++ putI f0 ++ putI f4 ++ putI f5) := by
    show _ = _
    unfold opL; rw [hm]; simp [opM]
  have US : Hid (∀ w, Calls Try.prog 68 #[.int .i64 f0] w fun e w' => e = .returned (.agg #[.bool false, .bool false, .bool false, .bool false, .bool true, .bool true, .bool false]) ∧ Below w.heap.size w w') := fun w => by
    have := uses_at f0 w
    rw [show fmask f0 = some 24 from hm] at this; exact this
  have L0 : (bs).length ≤ 900000000000 := by
    omega
  have P0 : Hid (∀ K w, OutS K R base (bs) w → Calls Try.prog 95 #[.pointer (some ⟨R, 0, none⟩), .int .i64 f0] w fun e w' => e = .returned (.tuple #[]) ∧ OutS K R base (bs ++ putI f0) w' ∧ Fr K base w w') := fun K w h => outN_at K R base _ f0 k0 w h L0
  have L4 : (bs ++ putI f0).length ≤ 900000000000 := by
    have := putI_len f0 k0
    simp only [List.length_append]; omega
  have P4 : Hid (∀ K w, OutS K R base (bs ++ putI f0) w → Calls Try.prog 95 #[.pointer (some ⟨R, 0, none⟩), .int .i64 f4] w fun e w' => e = .returned (.tuple #[]) ∧ OutS K R base (bs ++ putI f0 ++ putI f4) w' ∧ Fr K base w w') := fun K w h => outN_at K R base _ f4 k4 w h L4
  have L5 : (bs ++ putI f0 ++ putI f4).length ≤ 900000000000 := by
    have := putI_len f0 k0
    have := putI_len f4 k4
    simp only [List.length_append]; omega
  have P5 : Hid (∀ K w, OutS K R base (bs ++ putI f0 ++ putI f4) w → Calls Try.prog 95 #[.pointer (some ⟨R, 0, none⟩), .int .i64 f5] w fun e w' => e = .returned (.tuple #[]) ∧ OutS K R base (bs ++ putI f0 ++ putI f4 ++ putI f5) w' ∧ Fr K base w w') := fun K w h => outN_at K R base _ f5 k5 w h L5
  rw [E.out]
  unfold opV
  simp only
  have BA := below_alloc w (.cells #[.int .i64 f0, .int .i64 f1, .int .i64 f2, .int .i64 f3, .int .i64 f4, .int .i64 f5, .string f6] 23)
  have BX0 := Blk.new 23 [.int .i64 f0, .int .i64 f1, .int .i64 f2, .int .i64 f3, .int .i64 f4, .int .i64 f5, .string f6] w
  have h0 := h.later BA
  have FR0 := h.fr BA
  have hR := h.lt
  have OW : Hid (∀ w', Below w.heap.size w w' → ∀ v, w'.cell? ⟨R, 0, none⟩ = some v → ∀ g, v.ownBlock = some g → g < w.heap.size) := fun w' hb => h.own hb
  clear h hm E hl k0 k1 k2 k3 k4 k5 k6 L0 L4 L5
  go_enter Try.func93, Try.ntmps93
  go_wp2_with fail
  refine (US.out _).mono ?_
  rintro e w2 ⟨rfl, b2⟩
  have bx2 := Blk.below BX0 b2
  have h2 := h0.later b2
  have FR2 := FR0.trans (h0.fr b2)
  have BA2 := below_trans BA b2
  clear BX0 h0 FR0 b2 BA
  have BU := Blk.new 120 [.bool false, .bool false, .bool false, .bool false, .bool true, .bool true, .bool false] w2
  have BAU := below_alloc w2 (.cells #[.bool false, .bool false, .bool false, .bool false, .bool true, .bool true, .bool false] 120)
  have bx := Blk.below bx2 BAU
  have h3 := h2.later BAU
  have FR3 := FR2.trans (h2.fr BAU)
  have OW3 := OW.out _ (below_trans BA2 BAU)
  have ltX := bx2.lt
  have cx0 := bx2.cell 0 _ rfl
  have sU : (w2.alloc (.cells #[.bool false, .bool false, .bool false, .bool false, .bool true, .bool true, .bool false] 120)).heap.size = w2.heap.size + 1 := by simp
  clear h2 FR2 BA2 BAU OW
  obtain ⟨X, hXe⟩ : ∃ X, w.heap.size = X := ⟨_, rfl⟩
  rw [hXe] at bx bx2 ltX cx0 hR OW3 ⊢
  go_wp2_with fail
  obtain ⟨U, hUe⟩ : ∃ U, w2.heap.size = U := ⟨_, rfl⟩
  rw [hUe] at BU ltX sU ⊢
  have KU : Blk U 120 [.bool false, .bool false, .bool false, .bool false, .bool true, .bool true, .bool false] (w2.alloc (.cells #[.bool false, .bool false, .bool false, .bool false, .bool true, .bool true, .bool false] 120)) := BU
  clear BU cx0 bx2 hUe
  generalize w2.alloc (.cells #[.bool false, .bool false, .bool false, .bool false, .bool true, .bool true, .bool false] 120) = W0 at *
  have O0 : OutS (fun g => K g ∨ g = X ∨ g = U) R base bs W0 := h3.more _ fun g hg => by
    rcases hg with hg | rfl | rfl
    · exact .inl hg
    · exact .inr ⟨by omega, by omega, fun v hv e => by have := OW3 v hv _ e; omega⟩
    · exact .inr ⟨by omega, by omega, fun v hv e => by have := OW3 v hv _ e; omega⟩
  clear h3 OW3 sU
  refine (P0.out _ _ O0).mono ?_
  rintro e u0 ⟨rfl, ob0, g0⟩
  have bx0 := Blk.fr bx g0 (.inr (.inl rfl))
  have bu0 := Blk.fr KU g0 (.inr (.inr rfl))
  have fr0 := FR3.trans (g0.less fun g hg => .inl hg)
  clear O0 FR3 bx KU g0
  have lu1 := bu0.cell 1 _ rfl
  have lu2 := bu0.cell 2 _ rfl
  have lu3 := bu0.cell 3 _ rfl
  have lu4 := bu0.cell 4 _ rfl
  have lu5 := bu0.cell 5 _ rfl
  have lu6 := bu0.cell 6 _ rfl
  have lx4 := bx0.cell 4 _ rfl
  go_wp2_with fail
  clear lu1 lu2 lu3 lu4 lu5 lu6 lx4
  refine (P4.out _ _ ob0).mono ?_
  rintro e u4 ⟨rfl, ob4, g4⟩
  have bx4 := Blk.fr bx0 g4 (.inr (.inl rfl))
  have bu4 := Blk.fr bu0 g4 (.inr (.inr rfl))
  have fr4 := fr0.trans (g4.less fun g hg => .inl hg)
  clear ob0 fr0 bx0 bu0 g4
  have lu5 := bu4.cell 5 _ rfl
  have lu6 := bu4.cell 6 _ rfl
  have lx5 := bx4.cell 5 _ rfl
  go_wp2_with fail
  clear lu5 lu6 lx5
  refine (P5.out _ _ ob4).mono ?_
  rintro e u5 ⟨rfl, ob5, g5⟩
  have bx5 := Blk.fr bx4 g5 (.inr (.inl rfl))
  have bu5 := Blk.fr bu4 g5 (.inr (.inr rfl))
  have fr5 := fr4.trans (g5.less fun g hg => .inl hg)
  clear ob4 fr4 bx4 bu4 g5
  have lu6 := bu5.cell 6 _ rfl
  go_wp2_with fail
  go_end0
  exact ⟨rfl, ob5.fewer (fun g hg => .inl hg), fr5⟩

set_option maxRecDepth 20000 in
set_option maxHeartbeats 1000000 in
theorem outOp_0 (K : Nat → Prop) (R base : Nat) (bs : List Nat) (o : OpV) (ok : o.Ok) (hm : fmask o.kind = some 0) (w : World) (h : OutS K R base bs w) (hl : bs.length ≤ 800000000000) :
    Calls Try.prog 93 #[.pointer (some ⟨R, 0, none⟩), opV o] w fun e w' => e = .returned (.tuple #[]) ∧ OutS K R base (bs ++ opL o) w' ∧ Fr K base w w' := by
  obtain ⟨f0, f1, f2, f3, f4, f5, f6⟩ := o
  obtain ⟨k0, k1, k2, k3, k4, k5, k6⟩ := ok
  have E : Hid (bs ++ opL ⟨f0, f1, f2, f3, f4, f5, f6⟩ = bs ++ putI f0) := by
    show _ = _
    unfold opL; rw [hm]; simp [opM]
  have US : Hid (∀ w, Calls Try.prog 68 #[.int .i64 f0] w fun e w' => e = .returned (.agg #[.bool false, .bool false, .bool false, .bool false, .bool false, .bool false, .bool false]) ∧ Below w.heap.size w w') := fun w => by
    have := uses_at f0 w
    rw [show fmask f0 = some 0 from hm] at this; exact this
  have L0 : (bs).length ≤ 900000000000 := by
    omega
  have P0 : Hid (∀ K w, OutS K R base (bs) w → Calls Try.prog 95 #[.pointer (some ⟨R, 0, none⟩), .int .i64 f0] w fun e w' => e = .returned (.tuple #[]) ∧ OutS K R base (bs ++ putI f0) w' ∧ Fr K base w w') := fun K w h => outN_at K R base _ f0 k0 w h L0
  rw [E.out]
  unfold opV
  simp only
  have BA := below_alloc w (.cells #[.int .i64 f0, .int .i64 f1, .int .i64 f2, .int .i64 f3, .int .i64 f4, .int .i64 f5, .string f6] 23)
  have BX0 := Blk.new 23 [.int .i64 f0, .int .i64 f1, .int .i64 f2, .int .i64 f3, .int .i64 f4, .int .i64 f5, .string f6] w
  have h0 := h.later BA
  have FR0 := h.fr BA
  have hR := h.lt
  have OW : Hid (∀ w', Below w.heap.size w w' → ∀ v, w'.cell? ⟨R, 0, none⟩ = some v → ∀ g, v.ownBlock = some g → g < w.heap.size) := fun w' hb => h.own hb
  clear h hm E hl k0 k1 k2 k3 k4 k5 k6 L0
  go_enter Try.func93, Try.ntmps93
  go_wp2_with fail
  refine (US.out _).mono ?_
  rintro e w2 ⟨rfl, b2⟩
  have bx2 := Blk.below BX0 b2
  have h2 := h0.later b2
  have FR2 := FR0.trans (h0.fr b2)
  have BA2 := below_trans BA b2
  clear BX0 h0 FR0 b2 BA
  have BU := Blk.new 120 [.bool false, .bool false, .bool false, .bool false, .bool false, .bool false, .bool false] w2
  have BAU := below_alloc w2 (.cells #[.bool false, .bool false, .bool false, .bool false, .bool false, .bool false, .bool false] 120)
  have bx := Blk.below bx2 BAU
  have h3 := h2.later BAU
  have FR3 := FR2.trans (h2.fr BAU)
  have OW3 := OW.out _ (below_trans BA2 BAU)
  have ltX := bx2.lt
  have cx0 := bx2.cell 0 _ rfl
  have sU : (w2.alloc (.cells #[.bool false, .bool false, .bool false, .bool false, .bool false, .bool false, .bool false] 120)).heap.size = w2.heap.size + 1 := by simp
  clear h2 FR2 BA2 BAU OW
  obtain ⟨X, hXe⟩ : ∃ X, w.heap.size = X := ⟨_, rfl⟩
  rw [hXe] at bx bx2 ltX cx0 hR OW3 ⊢
  go_wp2_with fail
  obtain ⟨U, hUe⟩ : ∃ U, w2.heap.size = U := ⟨_, rfl⟩
  rw [hUe] at BU ltX sU ⊢
  have KU : Blk U 120 [.bool false, .bool false, .bool false, .bool false, .bool false, .bool false, .bool false] (w2.alloc (.cells #[.bool false, .bool false, .bool false, .bool false, .bool false, .bool false, .bool false] 120)) := BU
  clear BU cx0 bx2 hUe
  generalize w2.alloc (.cells #[.bool false, .bool false, .bool false, .bool false, .bool false, .bool false, .bool false] 120) = W0 at *
  have O0 : OutS (fun g => K g ∨ g = X ∨ g = U) R base bs W0 := h3.more _ fun g hg => by
    rcases hg with hg | rfl | rfl
    · exact .inl hg
    · exact .inr ⟨by omega, by omega, fun v hv e => by have := OW3 v hv _ e; omega⟩
    · exact .inr ⟨by omega, by omega, fun v hv e => by have := OW3 v hv _ e; omega⟩
  clear h3 OW3 sU
  refine (P0.out _ _ O0).mono ?_
  rintro e u0 ⟨rfl, ob0, g0⟩
  have bx0 := Blk.fr bx g0 (.inr (.inl rfl))
  have bu0 := Blk.fr KU g0 (.inr (.inr rfl))
  have fr0 := FR3.trans (g0.less fun g hg => .inl hg)
  clear O0 FR3 bx KU g0
  have lu1 := bu0.cell 1 _ rfl
  have lu2 := bu0.cell 2 _ rfl
  have lu3 := bu0.cell 3 _ rfl
  have lu4 := bu0.cell 4 _ rfl
  have lu5 := bu0.cell 5 _ rfl
  have lu6 := bu0.cell 6 _ rfl
  go_wp2_with fail
  go_end0
  exact ⟨rfl, ob0.fewer (fun g hg => .inl hg), fr0⟩

theorem outOp_at (K : Nat → Prop) (R base : Nat) (bs : List Nat) (o : OpV) (ok : o.Ok) (hm : fmask o.kind ≠ none) (w : World) (h : OutS K R base bs w) (hl : bs.length ≤ 800000000000) :
    Calls Try.prog 93 #[.pointer (some ⟨R, 0, none⟩), opV o] w fun e w' => e = .returned (.tuple #[]) ∧ OutS K R base (bs ++ opL o) w' ∧ Fr K base w w' := by
  rcases fmask_cases o.kind with hk | hk | hk | hk | hk | hk | hk | hk | hk | hk | hk
  · exact absurd hk hm
  · exact outOp_31 K R base bs o ok hk w h hl
  · exact outOp_11 K R base bs o ok hk w h hl
  · exact outOp_3 K R base bs o ok hk w h hl
  · exact outOp_1 K R base bs o ok hk w h hl
  · exact outOp_19 K R base bs o ok hk w h hl
  · exact outOp_13 K R base bs o ok hk w h hl
  · exact outOp_16 K R base bs o ok hk w h hl
  · exact outOp_32 K R base bs o ok hk w h hl
  · exact outOp_24 K R base bs o ok hk w h hl
  · exact outOp_0 K R base bs o ok hk w h hl

end Go.Proofs.Ytbghoogkmdnmpaa
