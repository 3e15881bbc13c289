/-
  Ours: look.
-/
import Derived.Test.YtiefnomldfhhnaaDskPr1
import Derived.Test.YtiefnomldfhhnaaDskSurv
namespace Go.Proofs.Ytiefnomldfhhnaa
open Go.RowKit

set_option maxRecDepth 100000 in
set_option maxHeartbeats 1000000 in
theorem look_at (w0 : World) (R : Nat) (S T : Nat → Prop) (t : Dk) (x0 x1 p0 p1 xa : Sl) (cn : Int) (w : World) (h : PrIn w0 R S T t x0 x1 p0 p1 xa cn w) (o : OpD) (x : Option Addr) (c : Nat) (F : Nat → Prop) (l : List He) (va : Sl) (hh : HeldV F l va w) (hl : l.length ≤ 2000000) :
    Calls Try.prog 15 #[.agg (PV R x0 x1 p0 p1 xa cn t.dn t.wr).toArray, opd o x c, .slice va.a va.n va.c] w fun e w' => ∃ (vb : Sl) (F' : Nat → Prop) (l' : List He), e = .returned (.tuple #[.slice vb.a vb.n vb.c, .bool true]) ∧ HeldV F' l' vb w' ∧ l'.length ≤ l.length + 1 ∧ (∀ g, F' g → F g ∨ w.heap.size ≤ g) ∧ (∀ g, vb.v.ownBlock = some g → va.v.ownBlock = some g ∨ w.heap.size ≤ g) ∧ Kp (fun g => va.v.ownBlock = some g) w w' := by
  have ok := h.d.at_.1
  obtain ⟨rr, hrr⟩ : ∃ r, t.read o.file = r := ⟨_, rfl⟩
  obtain ⟨dd, hdd⟩ : ∃ r, t.durable o.file = r := ⟨_, rfl⟩
  have lr := read_len ok o.file
  have ld := dur_len ok o.file
  rw [hrr] at lr
  rw [hdd] at ld
  have PR : Hid (∀ w', Below w.heap.size w w' → Calls Try.prog 21 #[.pointer (some ⟨R, 0, none⟩), .int .i64 o.file] w' (NewE w' rr)) := fun w' hb => by rw [← hrr]; exact read_at R S t w' o.file (h.d.at_.below hb)
  have PD : Hid (∀ w', Below w.heap.size w w' → Calls Try.prog 22 #[.pointer (some ⟨R, 0, none⟩), .int .i64 o.file] w' (NewE w' dd)) := fun w' hb => by rw [← hdd]; exact durable_at R S t w' o.file (h.d.at_.below hb)
  have FR : Hid (∀ w', Below w.heap.size w w' → Calls Try.prog 23 #[.agg (RV x0 x1 p0 p1 xa cn t.dn t.wr).toArray, .int .i64 o.file] w' (NewE w' rr)) := fun w' hb => by rw [← hrr]; exact rread_at T t x0 x1 p0 p1 xa cn w' (h.r.below hb) ok o.file
  have FD : Hid (∀ w', Below w.heap.size w w' → Calls Try.prog 24 #[.agg (RV x0 x1 p0 p1 xa cn t.dn t.wr).toArray, .int .i64 o.file] w' (NewE w' dd)) := fun w' hb => by rw [← hdd]; exact rdur_at T t x0 x1 p0 p1 xa cn w' (h.r.below hb) ok o.file
  have EQ : Hid (∀ w' (va vb : Value) (X : List Nat), X.length ≤ 1000000000 → RdB w' va X → RdB w' vb X → Calls Try.prog 14 #[va, vb] w' fun e w'' => e = .returned (.bool true) ∧ ∃ n, w'' = w'.drewN n) := fun w' va vb X hl h1 h2 => by
    have := equal_at X X va vb w' (by omega) h1 h2
    simpa using this
  have HH : Hid (HeldV F l va w) := hh
  have W0 := below2 w (PV R x0 x1 p0 p1 xa cn t.dn t.wr) (OD o.kind o.other o.file o.a o.b x o.data.length c) 37 28
  have D0 := blk1 w (PV R x0 x1 p0 p1 xa cn t.dn t.wr) (OD o.kind o.other o.file o.a o.b x o.data.length c) 37 28
  have O0 := blk2 w (PV R x0 x1 p0 p1 xa cn t.dn t.wr) (OD o.kind o.other o.file o.a o.b x o.data.length c) 37 28
  obtain ⟨rl, re⟩ := rr
  obtain ⟨dl, de⟩ := dd
  simp only at lr ld
  unfold opd
  clear h hh hrr hdd ok
  go_enter Try.func15, Try.ntmps15
  go_upto_region 1 with fail
  generalize (w.alloc (.cells (PV R x0 x1 p0 p1 xa cn t.dn t.wr).toArray 37)).alloc (.cells (OD o.kind o.other o.file o.a o.b x o.data.length c).toArray 28) = w3 at *
  obtain ⟨Q, hQ⟩ : ∃ Q, w.heap.size = Q := ⟨_, rfl⟩
  rw [hQ] at D0 O0 ⊢
  clear hQ
  have p0 := D0.cell 0 _ rfl
  have p1 := D0.cell 1 _ rfl
  have p2 := D0.cell 2 _ rfl
  have p3 := D0.cell 3 _ rfl
  have p4 := D0.cell 4 _ rfl
  have p5 := D0.cell 5 _ rfl
  have p6 := D0.cell 6 _ rfl
  have p7 := D0.cell 7 _ rfl
  have p8 := D0.cell 8 _ rfl
  have q0 := O0.cell 0 _ rfl
  have q1 := O0.cell 1 _ rfl
  have q2 := O0.cell 2 _ rfl
  have q3 := O0.cell 3 _ rfl
  have q4 := O0.cell 4 _ rfl
  have q5 := O0.cell 5 _ rfl
  go_wp2_with fail
  refine (PR.out _ W0).mono ?_
  rintro e v1 ⟨a1, k1, rfl, r1, b1⟩
  have W1 := below_trans W0 b1
  have z1 := b1.size
  have D1 := D0.below b1
  have O1 := O0.below b1
  clear p0 p1 p2 p3 p4 p5 p6 p7 p8 q0 q1 q2 q3 q4 q5 D0 O0
  have p0 := D1.cell 0 _ rfl
  have p1 := D1.cell 1 _ rfl
  have p2 := D1.cell 2 _ rfl
  have p3 := D1.cell 3 _ rfl
  have p4 := D1.cell 4 _ rfl
  have p5 := D1.cell 5 _ rfl
  have p6 := D1.cell 6 _ rfl
  have p7 := D1.cell 7 _ rfl
  have p8 := D1.cell 8 _ rfl
  have q0 := O1.cell 0 _ rfl
  have q1 := O1.cell 1 _ rfl
  have q2 := O1.cell 2 _ rfl
  have q3 := O1.cell 3 _ rfl
  have q4 := O1.cell 4 _ rfl
  have q5 := O1.cell 5 _ rfl
  go_wp2_with fail
  refine (PR.out _ W1).mono ?_
  rintro e v2 ⟨a2, k2, rfl, r2, b2⟩
  have W2 := below_trans W1 b2
  have z2 := b2.size
  have D2 := D1.below b2
  have O2 := O1.below b2
  clear p0 p1 p2 p3 p4 p5 p6 p7 p8 q0 q1 q2 q3 q4 q5 D1 O1
  have p0 := D2.cell 0 _ rfl
  have p1 := D2.cell 1 _ rfl
  have p2 := D2.cell 2 _ rfl
  have p3 := D2.cell 3 _ rfl
  have p4 := D2.cell 4 _ rfl
  have p5 := D2.cell 5 _ rfl
  have p6 := D2.cell 6 _ rfl
  have p7 := D2.cell 7 _ rfl
  have p8 := D2.cell 8 _ rfl
  have q0 := O2.cell 0 _ rfl
  have q1 := O2.cell 1 _ rfl
  have q2 := O2.cell 2 _ rfl
  have q3 := O2.cell 3 _ rfl
  have q4 := O2.cell 4 _ rfl
  have q5 := O2.cell 5 _ rfl
  go_wp2_with fail
  refine (PD.out _ W2).mono ?_
  rintro e v3 ⟨a3, k3, rfl, r3, b3⟩
  have W3 := below_trans W2 b3
  have z3 := b3.size
  have D3 := D2.below b3
  have O3 := O2.below b3
  clear p0 p1 p2 p3 p4 p5 p6 p7 p8 q0 q1 q2 q3 q4 q5 D2 O2
  have p0 := D3.cell 0 _ rfl
  have p1 := D3.cell 1 _ rfl
  have p2 := D3.cell 2 _ rfl
  have p3 := D3.cell 3 _ rfl
  have p4 := D3.cell 4 _ rfl
  have p5 := D3.cell 5 _ rfl
  have p6 := D3.cell 6 _ rfl
  have p7 := D3.cell 7 _ rfl
  have p8 := D3.cell 8 _ rfl
  have q0 := O3.cell 0 _ rfl
  have q1 := O3.cell 1 _ rfl
  have q2 := O3.cell 2 _ rfl
  have q3 := O3.cell 3 _ rfl
  have q4 := O3.cell 4 _ rfl
  have q5 := O3.cell 5 _ rfl
  go_wp2_with fail
  refine (FR.out _ W3).mono ?_
  rintro e v4 ⟨a4, k4, rfl, r4, b4⟩
  have W4 := below_trans W3 b4
  have z4 := b4.size
  have D4 := D3.below b4
  have O4 := O3.below b4
  clear p0 p1 p2 p3 p4 p5 p6 p7 p8 q0 q1 q2 q3 q4 q5 D3 O3
  have p0 := D4.cell 0 _ rfl
  have p1 := D4.cell 1 _ rfl
  have p2 := D4.cell 2 _ rfl
  have p3 := D4.cell 3 _ rfl
  have p4 := D4.cell 4 _ rfl
  have p5 := D4.cell 5 _ rfl
  have p6 := D4.cell 6 _ rfl
  have p7 := D4.cell 7 _ rfl
  have p8 := D4.cell 8 _ rfl
  have q0 := O4.cell 0 _ rfl
  have q1 := O4.cell 1 _ rfl
  have q2 := O4.cell 2 _ rfl
  have q3 := O4.cell 3 _ rfl
  have q4 := O4.cell 4 _ rfl
  have q5 := O4.cell 5 _ rfl
  go_wp2_with fail
  refine (FD.out _ W4).mono ?_
  rintro e v5 ⟨a5, k5, rfl, r5, b5⟩
  have W5 := below_trans W4 b5
  have z5 := b5.size
  have D5 := D4.below b5
  have O5 := O4.below b5
  clear p0 p1 p2 p3 p4 p5 p6 p7 p8 q0 q1 q2 q3 q4 q5 D4 O4
  have p0 := D5.cell 0 _ rfl
  have p1 := D5.cell 1 _ rfl
  have p2 := D5.cell 2 _ rfl
  have p3 := D5.cell 3 _ rfl
  have p4 := D5.cell 4 _ rfl
  have p5 := D5.cell 5 _ rfl
  have p6 := D5.cell 6 _ rfl
  have p7 := D5.cell 7 _ rfl
  have p8 := D5.cell 8 _ rfl
  have q0 := O5.cell 0 _ rfl
  have q1 := O5.cell 1 _ rfl
  have q2 := O5.cell 2 _ rfl
  have q3 := O5.cell 3 _ rfl
  have q4 := O5.cell 4 _ rfl
  have q5 := O5.cell 5 _ rfl
  by_cases hk : o.kind = 5
  · have kb : (o.kind != 5) = false := by rw [hk]; rfl
    clear hk
    have RB : RowB 5 w3.heap.size v5 _ rl := RowV.later (RowV.later (RowV.later (RowV.later (r1) b2) b3) b4) b5
    have RT : RowB 5 v1.heap.size v5 _ rl := RowV.later (RowV.later (RowV.later (r2) b3) b4) b5
    have RO : RowB 5 v2.heap.size v5 _ dl := RowV.later (RowV.later (r3) b4) b5
    have RC : RowB 5 v3.heap.size v5 _ rl := RowV.later (r4) b5
    have RD : RowB 5 v4.heap.size v5 _ dl := r5
    have eb : (re == re) = true := by simp
    have HL := HH.out.kp (Kp.of_below W5 (fun _ => False)) (fun _ _ h => h) (fun _ _ h => h)
    have vlt : ∀ g, va.v.ownBlock = some g → g < w.heap.size := fun g hg => (World.ownsRow.lt HH.out.row g hg).2
    have flt : ∀ g, F g → g < w.heap.size := HH.out.s
    have zw := W0.size
    have zz : w3.heap.size ≤ v5.heap.size ∧ w3.heap.size ≤ w3.heap.size := by omega
    have bge : ∀ g, (Value.slice a1 rl.length k1).ownBlock = some g → w3.heap.size ≤ g ∧ g < v1.heap.size := fun g hg => ⟨by have := RB.block_ge hg; omega, r1.block_lt hg⟩
    have E1 : Hid (Calls _ _ _ _ _) := EQ.out v5 _ _ rl (by omega) RB.rd RC.rd
    have HD : Hid (∀ n, Calls Try.prog 25 #[.slice va.a va.n va.c, .slice a1 rl.length k1] (v5.drewN n) _) := fun n => hold_at F l va ⟨a1, rl.length, k1⟩ rl (v5.drewN n) (HL.kp (Kp.of_below (below_drewN (Below.refl _ _) n) (fun _ => False)) (fun _ _ h => h) (fun _ _ h => h)) hl _ (RowV.drewN RB n) (by omega) (fun g hg => ⟨fun hf => by have := flt g hf; have := bge g hg; omega, fun hv => by have := vlt g hv; have := bge g hg; omega⟩)
    have E2 : Hid (∀ w9 n, Kp (fun g => (Value.slice a1 rl.length k1).ownBlock = some g ∨ va.v.ownBlock = some g) (v5.drewN n) w9 → ∀ m, Calls Try.prog 14 #[.slice a2 rl.length k2, .slice a4 rl.length k4] (w9.drewN m) fun e w'' => e = .returned (.bool true) ∧ ∃ n, w'' = (w9.drewN m).drewN n) := fun w9 n kp m => EQ.out (w9.drewN m) _ _ rl (by omega) (Rd.drewN ((RowV.drewN RT n).kp kp (fun g hg e => e.elim (fun e => by have := bge g e; have := RT.block_ge hg; omega) (fun e => by have := vlt g e; have := RT.block_ge hg; omega))).rd m) (Rd.drewN ((RowV.drewN RC n).kp kp (fun g hg e => e.elim (fun e => by have := bge g e; have := RC.block_ge hg; omega) (fun e => by have := vlt g e; have := RC.block_ge hg; omega))).rd m)
    have E3 : Hid (∀ w9 n, Kp (fun g => (Value.slice a1 rl.length k1).ownBlock = some g ∨ va.v.ownBlock = some g) (v5.drewN n) w9 → ∀ m, Calls Try.prog 14 #[.slice a3 dl.length k3, .slice a5 dl.length k5] (w9.drewN m) fun e w'' => e = .returned (.bool true) ∧ ∃ n, w'' = (w9.drewN m).drewN n) := fun w9 n kp m => EQ.out (w9.drewN m) _ _ dl (by omega) (Rd.drewN ((RowV.drewN RO n).kp kp (fun g hg e => e.elim (fun e => by have := bge g e; have := RO.block_ge hg; omega) (fun e => by have := vlt g e; have := RO.block_ge hg; omega))).rd m) (Rd.drewN ((RowV.drewN RD n).kp kp (fun g hg e => e.elim (fun e => by have := bge g e; have := RD.block_ge hg; omega) (fun e => by have := vlt g e; have := RD.block_ge hg; omega))).rd m)
    have FK : Hid (∀ w9 n, Kp (fun g => (Value.slice a1 rl.length k1).ownBlock = some g ∨ va.v.ownBlock = some g) (v5.drewN n) w9 → Kp (fun g => va.v.ownBlock = some g) w w9) := fun w9 n kp => (Kp.of_below (below_drewN W5 n) _).trans kp (fun g hg e => e.elim (fun e => by have := bge g e; omega) id)
    have WZ : Hid (w.heap.size ≤ v5.heap.size ∧ w.heap.size ≤ w3.heap.size) := ⟨W5.size, W0.size⟩
    have BG : Hid (∀ g, (Value.slice a1 rl.length k1).ownBlock = some g → w3.heap.size ≤ g) := fun g hg => (bge g hg).1
    clear RB RT RO RC RD HL vlt flt r1 b1 r2 b2 r3 b3 r4 b4 r5 b5 D5 O5 bge zw zz
    go_wp2_with fail
    refine E1.out.mono ?_
    rintro e w8 ⟨rfl, n8, rfl⟩
    go_wp2_with fail
    refine (HD.out _).mono ?_
    rintro e w9 ⟨vb, F', l', rfl, H9, L9, F9, V9, K9⟩
    have X2 := E2.out w9 n8 K9
    have X3 := E3.out w9 n8 K9
    have X2 : Hid _ := X2
    have X3 : Hid _ := X3
    have FIN : Hid (HeldV F' l' vb w9 ∧ l'.length ≤ l.length + 1 ∧ (∀ g, F' g → F g ∨ w.heap.size ≤ g) ∧ (∀ g, vb.v.ownBlock = some g → va.v.ownBlock = some g ∨ w.heap.size ≤ g) ∧ Kp (fun g => va.v.ownBlock = some g) w w9) := ⟨H9, L9, fun g hg => (F9 g hg).elim .inl (fun h => h.elim (fun h => .inr (Nat.le_trans WZ.out.2 (BG.out g h))) (fun h => .inr (Nat.le_trans WZ.out.1 h))), fun g hg => (V9 g hg).imp id (fun h => Nat.le_trans WZ.out.1 h), FK.out w9 n8 K9⟩
    clear H9 L9 F9 V9 K9 E1 E2 E3 HD FK
    go_wp2_with fail
    refine (X2.out 0).mono ?_
    rintro e w10 ⟨rfl, n10, rfl⟩
    go_wp2_with fail
    refine (X3.out _).mono ?_
    rintro e w11 ⟨rfl, n11, rfl⟩
    go_wp2_with fail
    go_ret2
    exact ⟨vb, F', l', rfl, FIN.out.1.kp (Kp.of_below (below_drewN (Below.refl _ _) _) (fun _ => False)) (fun _ _ h => h) (fun _ _ h => h), FIN.out.2.1, FIN.out.2.2.1, FIN.out.2.2.2.1, FIN.out.2.2.2.2.drewN _⟩
  · have kb : (o.kind != 5) = true := bne_iff_ne.2 hk
    clear hk
    go_wp2_with fail
    refine (PD.out _ W5).mono ?_
    rintro e v6 ⟨a6, k6, rfl, r6, b6⟩
    have W6 := below_trans W5 b6
    have z6 := b6.size
    have D6 := D5.below b6
    have O6 := O5.below b6
    clear p0 p1 p2 p3 p4 p5 p6 p7 p8 q0 q1 q2 q3 q4 q5 D5 O5
    have p0 := D6.cell 0 _ rfl
    have p1 := D6.cell 1 _ rfl
    have p2 := D6.cell 2 _ rfl
    have p3 := D6.cell 3 _ rfl
    have p4 := D6.cell 4 _ rfl
    have p5 := D6.cell 5 _ rfl
    have p6 := D6.cell 6 _ rfl
    have p7 := D6.cell 7 _ rfl
    have p8 := D6.cell 8 _ rfl
    have q0 := O6.cell 0 _ rfl
    have q1 := O6.cell 1 _ rfl
    have q2 := O6.cell 2 _ rfl
    have q3 := O6.cell 3 _ rfl
    have q4 := O6.cell 4 _ rfl
    have q5 := O6.cell 5 _ rfl
    go_wp2_with fail
    refine (PD.out _ W6).mono ?_
    rintro e v7 ⟨a7, k7, rfl, r7, b7⟩
    have W7 := below_trans W6 b7
    have z7 := b7.size
    have D7 := D6.below b7
    have O7 := O6.below b7
    clear p0 p1 p2 p3 p4 p5 p6 p7 p8 q0 q1 q2 q3 q4 q5 D6 O6
    have p0 := D7.cell 0 _ rfl
    have p1 := D7.cell 1 _ rfl
    have p2 := D7.cell 2 _ rfl
    have p3 := D7.cell 3 _ rfl
    have p4 := D7.cell 4 _ rfl
    have p5 := D7.cell 5 _ rfl
    have p6 := D7.cell 6 _ rfl
    have p7 := D7.cell 7 _ rfl
    have p8 := D7.cell 8 _ rfl
    have q0 := O7.cell 0 _ rfl
    have q1 := O7.cell 1 _ rfl
    have q2 := O7.cell 2 _ rfl
    have q3 := O7.cell 3 _ rfl
    have q4 := O7.cell 4 _ rfl
    have q5 := O7.cell 5 _ rfl
    go_wp2_with fail
    refine (PR.out _ W7).mono ?_
    rintro e v8 ⟨a8, k8, rfl, r8, b8⟩
    have W8 := below_trans W7 b8
    have z8 := b8.size
    have D8 := D7.below b8
    have O8 := O7.below b8
    clear p0 p1 p2 p3 p4 p5 p6 p7 p8 q0 q1 q2 q3 q4 q5 D7 O7
    have p0 := D8.cell 0 _ rfl
    have p1 := D8.cell 1 _ rfl
    have p2 := D8.cell 2 _ rfl
    have p3 := D8.cell 3 _ rfl
    have p4 := D8.cell 4 _ rfl
    have p5 := D8.cell 5 _ rfl
    have p6 := D8.cell 6 _ rfl
    have p7 := D8.cell 7 _ rfl
    have p8 := D8.cell 8 _ rfl
    have q0 := O8.cell 0 _ rfl
    have q1 := O8.cell 1 _ rfl
    have q2 := O8.cell 2 _ rfl
    have q3 := O8.cell 3 _ rfl
    have q4 := O8.cell 4 _ rfl
    have q5 := O8.cell 5 _ rfl
    go_wp2_with fail
    refine (FD.out _ W8).mono ?_
    rintro e v9 ⟨a9, k9, rfl, r9, b9⟩
    have W9 := below_trans W8 b9
    have z9 := b9.size
    have D9 := D8.below b9
    have O9 := O8.below b9
    clear p0 p1 p2 p3 p4 p5 p6 p7 p8 q0 q1 q2 q3 q4 q5 D8 O8
    have p0 := D9.cell 0 _ rfl
    have p1 := D9.cell 1 _ rfl
    have p2 := D9.cell 2 _ rfl
    have p3 := D9.cell 3 _ rfl
    have p4 := D9.cell 4 _ rfl
    have p5 := D9.cell 5 _ rfl
    have p6 := D9.cell 6 _ rfl
    have p7 := D9.cell 7 _ rfl
    have p8 := D9.cell 8 _ rfl
    have q0 := O9.cell 0 _ rfl
    have q1 := O9.cell 1 _ rfl
    have q2 := O9.cell 2 _ rfl
    have q3 := O9.cell 3 _ rfl
    have q4 := O9.cell 4 _ rfl
    have q5 := O9.cell 5 _ rfl
    go_wp2_with fail
    refine (FR.out _ W9).mono ?_
    rintro e v10 ⟨a10, k10, rfl, r10, b10⟩
    have W10 := below_trans W9 b10
    have z10 := b10.size
    have D10 := D9.below b10
    have O10 := O9.below b10
    clear p0 p1 p2 p3 p4 p5 p6 p7 p8 q0 q1 q2 q3 q4 q5 D9 O9
    have p0 := D10.cell 0 _ rfl
    have p1 := D10.cell 1 _ rfl
    have p2 := D10.cell 2 _ rfl
    have p3 := D10.cell 3 _ rfl
    have p4 := D10.cell 4 _ rfl
    have p5 := D10.cell 5 _ rfl
    have p6 := D10.cell 6 _ rfl
    have p7 := D10.cell 7 _ rfl
    have p8 := D10.cell 8 _ rfl
    have q0 := O10.cell 0 _ rfl
    have q1 := O10.cell 1 _ rfl
    have q2 := O10.cell 2 _ rfl
    have q3 := O10.cell 3 _ rfl
    have q4 := O10.cell 4 _ rfl
    have q5 := O10.cell 5 _ rfl
    have RB : RowB 5 v5.heap.size v10 _ dl := RowV.later (RowV.later (RowV.later (RowV.later (r6) b7) b8) b9) b10
    have RT : RowB 5 v6.heap.size v10 _ dl := RowV.later (RowV.later (RowV.later (r7) b8) b9) b10
    have RO : RowB 5 v7.heap.size v10 _ rl := RowV.later (RowV.later (r8) b9) b10
    have RC : RowB 5 v8.heap.size v10 _ dl := RowV.later (r9) b10
    have RD : RowB 5 v9.heap.size v10 _ rl := r10
    have eb : (de == de) = true := by simp
    have HL := HH.out.kp (Kp.of_below W10 (fun _ => False)) (fun _ _ h => h) (fun _ _ h => h)
    have vlt : ∀ g, va.v.ownBlock = some g → g < w.heap.size := fun g hg => (World.ownsRow.lt HH.out.row g hg).2
    have flt : ∀ g, F g → g < w.heap.size := HH.out.s
    have zw := W0.size
    have zz : w3.heap.size ≤ v10.heap.size ∧ w3.heap.size ≤ v5.heap.size := by omega
    have bge : ∀ g, (Value.slice a6 dl.length k6).ownBlock = some g → w3.heap.size ≤ g ∧ g < v6.heap.size := fun g hg => ⟨by have := RB.block_ge hg; omega, r6.block_lt hg⟩
    have E1 : Hid (Calls _ _ _ _ _) := EQ.out v10 _ _ dl (by omega) RB.rd RC.rd
    have HD : Hid (∀ n, Calls Try.prog 25 #[.slice va.a va.n va.c, .slice a6 dl.length k6] (v10.drewN n) _) := fun n => hold_at F l va ⟨a6, dl.length, k6⟩ dl (v10.drewN n) (HL.kp (Kp.of_below (below_drewN (Below.refl _ _) n) (fun _ => False)) (fun _ _ h => h) (fun _ _ h => h)) hl _ (RowV.drewN RB n) (by omega) (fun g hg => ⟨fun hf => by have := flt g hf; have := bge g hg; omega, fun hv => by have := vlt g hv; have := bge g hg; omega⟩)
    have E2 : Hid (∀ w9 n, Kp (fun g => (Value.slice a6 dl.length k6).ownBlock = some g ∨ va.v.ownBlock = some g) (v10.drewN n) w9 → ∀ m, Calls Try.prog 14 #[.slice a7 dl.length k7, .slice a9 dl.length k9] (w9.drewN m) fun e w'' => e = .returned (.bool true) ∧ ∃ n, w'' = (w9.drewN m).drewN n) := fun w9 n kp m => EQ.out (w9.drewN m) _ _ dl (by omega) (Rd.drewN ((RowV.drewN RT n).kp kp (fun g hg e => e.elim (fun e => by have := bge g e; have := RT.block_ge hg; omega) (fun e => by have := vlt g e; have := RT.block_ge hg; omega))).rd m) (Rd.drewN ((RowV.drewN RC n).kp kp (fun g hg e => e.elim (fun e => by have := bge g e; have := RC.block_ge hg; omega) (fun e => by have := vlt g e; have := RC.block_ge hg; omega))).rd m)
    have E3 : Hid (∀ w9 n, Kp (fun g => (Value.slice a6 dl.length k6).ownBlock = some g ∨ va.v.ownBlock = some g) (v10.drewN n) w9 → ∀ m, Calls Try.prog 14 #[.slice a8 rl.length k8, .slice a10 rl.length k10] (w9.drewN m) fun e w'' => e = .returned (.bool true) ∧ ∃ n, w'' = (w9.drewN m).drewN n) := fun w9 n kp m => EQ.out (w9.drewN m) _ _ rl (by omega) (Rd.drewN ((RowV.drewN RO n).kp kp (fun g hg e => e.elim (fun e => by have := bge g e; have := RO.block_ge hg; omega) (fun e => by have := vlt g e; have := RO.block_ge hg; omega))).rd m) (Rd.drewN ((RowV.drewN RD n).kp kp (fun g hg e => e.elim (fun e => by have := bge g e; have := RD.block_ge hg; omega) (fun e => by have := vlt g e; have := RD.block_ge hg; omega))).rd m)
    have FK : Hid (∀ w9 n, Kp (fun g => (Value.slice a6 dl.length k6).ownBlock = some g ∨ va.v.ownBlock = some g) (v10.drewN n) w9 → Kp (fun g => va.v.ownBlock = some g) w w9) := fun w9 n kp => (Kp.of_below (below_drewN W10 n) _).trans kp (fun g hg e => e.elim (fun e => by have := bge g e; omega) id)
    have WZ : Hid (w.heap.size ≤ v10.heap.size ∧ w.heap.size ≤ w3.heap.size) := ⟨W10.size, W0.size⟩
    have BG : Hid (∀ g, (Value.slice a6 dl.length k6).ownBlock = some g → w3.heap.size ≤ g) := fun g hg => (bge g hg).1
    clear RB RT RO RC RD HL vlt flt r1 b1 r2 b2 r3 b3 r4 b4 r5 b5 r6 b6 r7 b7 r8 b8 r9 b9 r10 b10 D10 O10 bge zw zz
    go_wp2_with fail
    refine E1.out.mono ?_
    rintro e w8 ⟨rfl, n8, rfl⟩
    go_wp2_with fail
    refine (HD.out _).mono ?_
    rintro e w9 ⟨vb, F', l', rfl, H9, L9, F9, V9, K9⟩
    have X2 := E2.out w9 n8 K9
    have X3 := E3.out w9 n8 K9
    have X2 : Hid _ := X2
    have X3 : Hid _ := X3
    have FIN : Hid (HeldV F' l' vb w9 ∧ l'.length ≤ l.length + 1 ∧ (∀ g, F' g → F g ∨ w.heap.size ≤ g) ∧ (∀ g, vb.v.ownBlock = some g → va.v.ownBlock = some g ∨ w.heap.size ≤ g) ∧ Kp (fun g => va.v.ownBlock = some g) w w9) := ⟨H9, L9, fun g hg => (F9 g hg).elim .inl (fun h => h.elim (fun h => .inr (Nat.le_trans WZ.out.2 (BG.out g h))) (fun h => .inr (Nat.le_trans WZ.out.1 h))), fun g hg => (V9 g hg).imp id (fun h => Nat.le_trans WZ.out.1 h), FK.out w9 n8 K9⟩
    clear H9 L9 F9 V9 K9 E1 E2 E3 HD FK
    go_wp2_with fail
    refine (X2.out 0).mono ?_
    rintro e w10 ⟨rfl, n10, rfl⟩
    go_wp2_with fail
    refine (X3.out _).mono ?_
    rintro e w11 ⟨rfl, n11, rfl⟩
    go_wp2_with fail
    go_ret2
    exact ⟨vb, F', l', rfl, FIN.out.1.kp (Kp.of_below (below_drewN (Below.refl _ _) _) (fun _ => False)) (fun _ _ h => h) (fun _ _ h => h), FIN.out.2.1, FIN.out.2.2.1, FIN.out.2.2.2.1, FIN.out.2.2.2.2.drewN _⟩
end Go.Proofs.Ytiefnomldfhhnaa
