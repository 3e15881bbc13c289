/-
  Ours: DskFell, DskSurv, DskLook, DskU5, DskUp0, DskUp5, DskFal, joined.
-/
import Derived.Test.YtiefnomldfhhnaaDskWrote
import Derived.Test.YtiefnomldfhhnaaDskPr1
import Derived.Test.YtiefnomldfhhnaaDskPr3
import Derived.Test.YtiefnomldfhhnaaDskPr4
import Derived.Test.YtiefnomldfhhnaaDskPr5
import Derived.Test.YtiefnomldfhhnaaDskOr2
import Derived.Test.YtiefnomldfhhnaaDskPure
import Derived.Deep.CutBlock
import Derived.Deep.CutRange
namespace Go.Proofs.Ytiefnomldfhhnaa
open Go.RowKit

def flR (o : OpD) (f : Int) (X : List Nat) : List Nat := if f = o.file ∧ (o.kind = 1 ∨ o.kind = 2) then X ++ handedL o else X
/-- What a round of fell looks at: all bytes that were, the durable ones that were, those that are. -/
structure Fel (w : World) (o : OpD) (f : Int) (aX : Option Addr) (cX : Nat) (aY : Option Addr) (cY : Nat) (aV : Option Addr) (nV cV : Nat) (X Y V : List Nat) : Prop where
  x : RdB w (.slice aX X.length cX) X
  y : RdB w (.slice aY Y.length cY) Y
  v : RdB w (.slice aV nV cV) V
  p1 : Y <+: V
  p2 : V <+: flR o f X
  lx : X.length ≤ 100000000
  ly : Y.length ≤ 100000000
  lv : V.length ≤ 100000000
theorem Fel.later {w w' : World} {o : OpD} {f : Int} {aX : Option Addr} {cX : Nat} {aY : Option Addr} {cY : Nat} {aV : Option Addr} {nV cV : Nat} {X Y V : List Nat} (h : Fel w o f aX cX aY cY aV nV cV X Y V) (hb : Below w.heap.size w w') : Fel w' o f aX cX aY cY aV nV cV X Y V :=
  ⟨Rd.later h.x hb, Rd.later h.y hb, Rd.later h.v hb, h.p1, h.p2, h.lx, h.ly, h.lv⟩
def FelIs (w : World) (o : OpD) (f : Int) (X : List Nat) (v8 : Value) (wx : World) : Prop :=
  ∃ a8 c8, v8 = .slice a8 (flR o f X).length c8 ∧ RdB wx (.slice a8 (flR o f X).length c8) (flR o f X) ∧ Below w.heap.size w wx

end Go.Proofs.Ytiefnomldfhhnaa

namespace Go.Proofs.Ytiefnomldfhhnaa
open Go.RowKit

theorem read_len {t : Dk} (ok : t.Ok) (f : Int) : (t.read f).1.length ≤ 16777216 := by
  unfold Dk.read; split
  · simp
  · unfold Dk.fb; split
    · exact ok.l0
    · exact ok.l1
theorem dur_len {t : Dk} (ok : t.Ok) (f : Int) : (t.durable f).1.length ≤ 16777216 := by
  unfold Dk.durable; split
  · unfold Dk.fb; simp only; rw [List.length_take]; split
    · have := ok.l0; omega
    · have := ok.l1; omega
  · simp
theorem read_up {t : Dk} (hd : t.dn = false) {f : Int} (hf : f = 0 ∨ f = 1) : (t.read f).1 = t.fb f := by
  unfold Dk.read Dk.no; rw [if_pos hf, hd]; simp
theorem dur_is {t : Dk} {f : Int} (hf : f = 0 ∨ f = 1) : (t.durable f).1 = (t.fb f).take (t.fd f) := by unfold Dk.durable; rw [if_pos hf]
theorem done_ok {t : Dk} {R : Nat} {S : Nat → Prop} {w : World} (h : DkAt R S t w) : t.Ok := h.1

/-- What the two sides of a step are, in memory. -/
structure Sides (w : World) (t t' : Dk) (a0 : Option Addr) (c0 : Nat) (a1 : Option Addr) (c1 : Nat) (a2 : Option Addr) (c2 : Nat) (a3 : Option Addr) (c3 : Nat) (b0 : Option Addr) (d0 : Nat) (b1 : Option Addr) (d1 : Nat) (b2 : Option Addr) (d2 : Nat) (b3 : Option Addr) (d3 : Nat) : Prop where
  x0 : RdB w (.slice a0 (t.read 0).1.length c0) (t.read 0).1
  x1 : RdB w (.slice a1 (t.read 1).1.length c1) (t.read 1).1
  y0 : RdB w (.slice a2 (t.durable 0).1.length c2) (t.durable 0).1
  y1 : RdB w (.slice a3 (t.durable 1).1.length c3) (t.durable 1).1
  u0 : RdB w (.slice b0 (t'.read 0).1.length d0) (t'.read 0).1
  u1 : RdB w (.slice b1 (t'.read 1).1.length d1) (t'.read 1).1
  v0 : RdB w (.slice b2 (t'.durable 0).1.length d2) (t'.durable 0).1
  v1 : RdB w (.slice b3 (t'.durable 1).1.length d3) (t'.durable 1).1
  ok : t.Ok
  ok' : t'.Ok
end Go.Proofs.Ytiefnomldfhhnaa

namespace Go.Proofs.Ytiefnomldfhhnaa
open Go.RowKit

set_option maxRecDepth 100000 in
set_option maxHeartbeats 1000000 in
theorem look_at (w0 : World) (R : Nat) (S T : Nat → Prop) (t : Dk) (x0 x1 p0 p1 xa : Sl) (cn : Int) (w : World) (h : PrIn w0 R S T t x0 x1 p0 p1 xa cn w) (o : OpD) (x : Option Addr) (c : Nat) (F : Nat → Prop) (l : List He) (va : Sl) (hh : HeldV F l va w) (hl : l.length ≤ 2000000) :
    Calls Try.prog 15 #[.agg (PV R x0 x1 p0 p1 xa cn t.dn t.wr).toArray, opd o x c, .slice va.a va.n va.c] w fun e w' => ∃ (vb : Sl) (F' : Nat → Prop) (l' : List He), e = .returned (.tuple #[.slice vb.a vb.n vb.c, .bool true]) ∧ HeldV F' l' vb w' ∧ l'.length ≤ l.length + 1 ∧ (∀ g, F' g → F g ∨ w.heap.size ≤ g) ∧ (∀ g, vb.v.ownBlock = some g → va.v.ownBlock = some g ∨ w.heap.size ≤ g) ∧ Kp (fun g => va.v.ownBlock = some g) w w' := by
  have ok := h.d.at_.1
  obtain ⟨rr, hrr⟩ : ∃ r, t.read o.file = r := ⟨_, rfl⟩
  obtain ⟨dd, hdd⟩ : ∃ r, t.durable o.file = r := ⟨_, rfl⟩
  have lr := read_len ok o.file
  have ld := dur_len ok o.file
  rw [hrr] at lr
  rw [hdd] at ld
  have PR : Hid (∀ w', Below w.heap.size w w' → Calls Try.prog 21 #[.pointer (some ⟨R, 0, none⟩), .int .i64 o.file] w' (NewE w' rr)) := fun w' hb => by rw [← hrr]; exact read_at R S t w' o.file (h.d.at_.below hb)
  have PD : Hid (∀ w', Below w.heap.size w w' → Calls Try.prog 22 #[.pointer (some ⟨R, 0, none⟩), .int .i64 o.file] w' (NewE w' dd)) := fun w' hb => by rw [← hdd]; exact durable_at R S t w' o.file (h.d.at_.below hb)
  have FR : Hid (∀ w', Below w.heap.size w w' → Calls Try.prog 23 #[.agg (RV x0 x1 p0 p1 xa cn t.dn t.wr).toArray, .int .i64 o.file] w' (NewE w' rr)) := fun w' hb => by rw [← hrr]; exact rread_at T t x0 x1 p0 p1 xa cn w' (h.r.below hb) ok o.file
  have FD : Hid (∀ w', Below w.heap.size w w' → Calls Try.prog 24 #[.agg (RV x0 x1 p0 p1 xa cn t.dn t.wr).toArray, .int .i64 o.file] w' (NewE w' dd)) := fun w' hb => by rw [← hdd]; exact rdur_at T t x0 x1 p0 p1 xa cn w' (h.r.below hb) ok o.file
  have EQ : Hid (∀ w' (va vb : Value) (X : List Nat), X.length ≤ 1000000000 → RdB w' va X → RdB w' vb X → Calls Try.prog 14 #[va, vb] w' fun e w'' => e = .returned (.bool true) ∧ ∃ n, w'' = w'.drewN n) := fun w' va vb X hl h1 h2 => by
    have := equal_at X X va vb w' (by omega) h1 h2
    simpa using this
  have HH : Hid (HeldV F l va w) := hh
  have W0 := below2 w (PV R x0 x1 p0 p1 xa cn t.dn t.wr) (OD o.kind o.other o.file o.a o.b x o.data.length c) 37 28
  have D0 := blk1 w (PV R x0 x1 p0 p1 xa cn t.dn t.wr) (OD o.kind o.other o.file o.a o.b x o.data.length c) 37 28
  have O0 := blk2 w (PV R x0 x1 p0 p1 xa cn t.dn t.wr) (OD o.kind o.other o.file o.a o.b x o.data.length c) 37 28
  obtain ⟨rl, re⟩ := rr
  obtain ⟨dl, de⟩ := dd
  simp only at lr ld
  unfold opd
  clear h hh hrr hdd ok
  go_enter Try.func15, Try.ntmps15
  go_upto_region 1 with fail
  generalize (w.alloc (.cells (PV R x0 x1 p0 p1 xa cn t.dn t.wr).toArray 37)).alloc (.cells (OD o.kind o.other o.file o.a o.b x o.data.length c).toArray 28) = w3 at *
  obtain ⟨Q, hQ⟩ : ∃ Q, w.heap.size = Q := ⟨_, rfl⟩
  rw [hQ] at D0 O0 ⊢
  clear hQ
  have p0 := D0.cell 0 _ rfl
  have p1 := D0.cell 1 _ rfl
  have p2 := D0.cell 2 _ rfl
  have p3 := D0.cell 3 _ rfl
  have p4 := D0.cell 4 _ rfl
  have p5 := D0.cell 5 _ rfl
  have p6 := D0.cell 6 _ rfl
  have p7 := D0.cell 7 _ rfl
  have p8 := D0.cell 8 _ rfl
  have q0 := O0.cell 0 _ rfl
  have q1 := O0.cell 1 _ rfl
  have q2 := O0.cell 2 _ rfl
  have q3 := O0.cell 3 _ rfl
  have q4 := O0.cell 4 _ rfl
  have q5 := O0.cell 5 _ rfl
  go_wp2_with fail
  refine (PR.out _ W0).mono ?_
  rintro e v1 ⟨a1, k1, rfl, r1, b1⟩
  have W1 := below_trans W0 b1
  have z1 := b1.size
  have D1 := D0.below b1
  have O1 := O0.below b1
  clear p0 p1 p2 p3 p4 p5 p6 p7 p8 q0 q1 q2 q3 q4 q5 D0 O0
  have p0 := D1.cell 0 _ rfl
  have p1 := D1.cell 1 _ rfl
  have p2 := D1.cell 2 _ rfl
  have p3 := D1.cell 3 _ rfl
  have p4 := D1.cell 4 _ rfl
  have p5 := D1.cell 5 _ rfl
  have p6 := D1.cell 6 _ rfl
  have p7 := D1.cell 7 _ rfl
  have p8 := D1.cell 8 _ rfl
  have q0 := O1.cell 0 _ rfl
  have q1 := O1.cell 1 _ rfl
  have q2 := O1.cell 2 _ rfl
  have q3 := O1.cell 3 _ rfl
  have q4 := O1.cell 4 _ rfl
  have q5 := O1.cell 5 _ rfl
  go_wp2_with fail
  refine (PR.out _ W1).mono ?_
  rintro e v2 ⟨a2, k2, rfl, r2, b2⟩
  have W2 := below_trans W1 b2
  have z2 := b2.size
  have D2 := D1.below b2
  have O2 := O1.below b2
  clear p0 p1 p2 p3 p4 p5 p6 p7 p8 q0 q1 q2 q3 q4 q5 D1 O1
  have p0 := D2.cell 0 _ rfl
  have p1 := D2.cell 1 _ rfl
  have p2 := D2.cell 2 _ rfl
  have p3 := D2.cell 3 _ rfl
  have p4 := D2.cell 4 _ rfl
  have p5 := D2.cell 5 _ rfl
  have p6 := D2.cell 6 _ rfl
  have p7 := D2.cell 7 _ rfl
  have p8 := D2.cell 8 _ rfl
  have q0 := O2.cell 0 _ rfl
  have q1 := O2.cell 1 _ rfl
  have q2 := O2.cell 2 _ rfl
  have q3 := O2.cell 3 _ rfl
  have q4 := O2.cell 4 _ rfl
  have q5 := O2.cell 5 _ rfl
  go_wp2_with fail
  refine (PD.out _ W2).mono ?_
  rintro e v3 ⟨a3, k3, rfl, r3, b3⟩
  have W3 := below_trans W2 b3
  have z3 := b3.size
  have D3 := D2.below b3
  have O3 := O2.below b3
  clear p0 p1 p2 p3 p4 p5 p6 p7 p8 q0 q1 q2 q3 q4 q5 D2 O2
  have p0 := D3.cell 0 _ rfl
  have p1 := D3.cell 1 _ rfl
  have p2 := D3.cell 2 _ rfl
  have p3 := D3.cell 3 _ rfl
  have p4 := D3.cell 4 _ rfl
  have p5 := D3.cell 5 _ rfl
  have p6 := D3.cell 6 _ rfl
  have p7 := D3.cell 7 _ rfl
  have p8 := D3.cell 8 _ rfl
  have q0 := O3.cell 0 _ rfl
  have q1 := O3.cell 1 _ rfl
  have q2 := O3.cell 2 _ rfl
  have q3 := O3.cell 3 _ rfl
  have q4 := O3.cell 4 _ rfl
  have q5 := O3.cell 5 _ rfl
  go_wp2_with fail
  refine (FR.out _ W3).mono ?_
  rintro e v4 ⟨a4, k4, rfl, r4, b4⟩
  have W4 := below_trans W3 b4
  have z4 := b4.size
  have D4 := D3.below b4
  have O4 := O3.below b4
  clear p0 p1 p2 p3 p4 p5 p6 p7 p8 q0 q1 q2 q3 q4 q5 D3 O3
  have p0 := D4.cell 0 _ rfl
  have p1 := D4.cell 1 _ rfl
  have p2 := D4.cell 2 _ rfl
  have p3 := D4.cell 3 _ rfl
  have p4 := D4.cell 4 _ rfl
  have p5 := D4.cell 5 _ rfl
  have p6 := D4.cell 6 _ rfl
  have p7 := D4.cell 7 _ rfl
  have p8 := D4.cell 8 _ rfl
  have q0 := O4.cell 0 _ rfl
  have q1 := O4.cell 1 _ rfl
  have q2 := O4.cell 2 _ rfl
  have q3 := O4.cell 3 _ rfl
  have q4 := O4.cell 4 _ rfl
  have q5 := O4.cell 5 _ rfl
  go_wp2_with fail
  refine (FD.out _ W4).mono ?_
  rintro e v5 ⟨a5, k5, rfl, r5, b5⟩
  have W5 := below_trans W4 b5
  have z5 := b5.size
  have D5 := D4.below b5
  have O5 := O4.below b5
  clear p0 p1 p2 p3 p4 p5 p6 p7 p8 q0 q1 q2 q3 q4 q5 D4 O4
  have p0 := D5.cell 0 _ rfl
  have p1 := D5.cell 1 _ rfl
  have p2 := D5.cell 2 _ rfl
  have p3 := D5.cell 3 _ rfl
  have p4 := D5.cell 4 _ rfl
  have p5 := D5.cell 5 _ rfl
  have p6 := D5.cell 6 _ rfl
  have p7 := D5.cell 7 _ rfl
  have p8 := D5.cell 8 _ rfl
  have q0 := O5.cell 0 _ rfl
  have q1 := O5.cell 1 _ rfl
  have q2 := O5.cell 2 _ rfl
  have q3 := O5.cell 3 _ rfl
  have q4 := O5.cell 4 _ rfl
  have q5 := O5.cell 5 _ rfl
  by_cases hk : o.kind = 5
  · have kb : (o.kind != 5) = false := by rw [hk]; rfl
    clear hk
    have RB : RowB 5 w3.heap.size v5 _ rl := RowV.later (RowV.later (RowV.later (RowV.later (r1) b2) b3) b4) b5
    have RT : RowB 5 v1.heap.size v5 _ rl := RowV.later (RowV.later (RowV.later (r2) b3) b4) b5
    have RO : RowB 5 v2.heap.size v5 _ dl := RowV.later (RowV.later (r3) b4) b5
    have RC : RowB 5 v3.heap.size v5 _ rl := RowV.later (r4) b5
    have RD : RowB 5 v4.heap.size v5 _ dl := r5
    have eb : (re == re) = true := by simp
    have HL := HH.out.kp (Kp.of_below W5 (fun _ => False)) (fun _ _ h => h) (fun _ _ h => h)
    have vlt : ∀ g, va.v.ownBlock = some g → g < w.heap.size := fun g hg => (World.ownsRow.lt HH.out.row g hg).2
    have flt : ∀ g, F g → g < w.heap.size := HH.out.s
    have zw := W0.size
    have zz : w3.heap.size ≤ v5.heap.size ∧ w3.heap.size ≤ w3.heap.size := by omega
    have bge : ∀ g, (Value.slice a1 rl.length k1).ownBlock = some g → w3.heap.size ≤ g ∧ g < v1.heap.size := fun g hg => ⟨by have := RB.block_ge hg; omega, r1.block_lt hg⟩
    have E1 : Hid (Calls _ _ _ _ _) := EQ.out v5 _ _ rl (by omega) RB.rd RC.rd
    have HD : Hid (∀ n, Calls Try.prog 25 #[.slice va.a va.n va.c, .slice a1 rl.length k1] (v5.drewN n) _) := fun n => hold_at F l va ⟨a1, rl.length, k1⟩ rl (v5.drewN n) (HL.kp (Kp.of_below (below_drewN (Below.refl _ _) n) (fun _ => False)) (fun _ _ h => h) (fun _ _ h => h)) hl _ (RowV.drewN RB n) (by omega) (fun g hg => ⟨fun hf => by have := flt g hf; have := bge g hg; omega, fun hv => by have := vlt g hv; have := bge g hg; omega⟩)
    have E2 : Hid (∀ w9 n, Kp (fun g => (Value.slice a1 rl.length k1).ownBlock = some g ∨ va.v.ownBlock = some g) (v5.drewN n) w9 → ∀ m, Calls Try.prog 14 #[.slice a2 rl.length k2, .slice a4 rl.length k4] (w9.drewN m) fun e w'' => e = .returned (.bool true) ∧ ∃ n, w'' = (w9.drewN m).drewN n) := fun w9 n kp m => EQ.out (w9.drewN m) _ _ rl (by omega) (Rd.drewN ((RowV.drewN RT n).kp kp (fun g hg e => e.elim (fun e => by have := bge g e; have := RT.block_ge hg; omega) (fun e => by have := vlt g e; have := RT.block_ge hg; omega))).rd m) (Rd.drewN ((RowV.drewN RC n).kp kp (fun g hg e => e.elim (fun e => by have := bge g e; have := RC.block_ge hg; omega) (fun e => by have := vlt g e; have := RC.block_ge hg; omega))).rd m)
    have E3 : Hid (∀ w9 n, Kp (fun g => (Value.slice a1 rl.length k1).ownBlock = some g ∨ va.v.ownBlock = some g) (v5.drewN n) w9 → ∀ m, Calls Try.prog 14 #[.slice a3 dl.length k3, .slice a5 dl.length k5] (w9.drewN m) fun e w'' => e = .returned (.bool true) ∧ ∃ n, w'' = (w9.drewN m).drewN n) := fun w9 n kp m => EQ.out (w9.drewN m) _ _ dl (by omega) (Rd.drewN ((RowV.drewN RO n).kp kp (fun g hg e => e.elim (fun e => by have := bge g e; have := RO.block_ge hg; omega) (fun e => by have := vlt g e; have := RO.block_ge hg; omega))).rd m) (Rd.drewN ((RowV.drewN RD n).kp kp (fun g hg e => e.elim (fun e => by have := bge g e; have := RD.block_ge hg; omega) (fun e => by have := vlt g e; have := RD.block_ge hg; omega))).rd m)
    have FK : Hid (∀ w9 n, Kp (fun g => (Value.slice a1 rl.length k1).ownBlock = some g ∨ va.v.ownBlock = some g) (v5.drewN n) w9 → Kp (fun g => va.v.ownBlock = some g) w w9) := fun w9 n kp => (Kp.of_below (below_drewN W5 n) _).trans kp (fun g hg e => e.elim (fun e => by have := bge g e; omega) id)
    have WZ : Hid (w.heap.size ≤ v5.heap.size ∧ w.heap.size ≤ w3.heap.size) := ⟨W5.size, W0.size⟩
    have BG : Hid (∀ g, (Value.slice a1 rl.length k1).ownBlock = some g → w3.heap.size ≤ g) := fun g hg => (bge g hg).1
    clear RB RT RO RC RD HL vlt flt r1 b1 r2 b2 r3 b3 r4 b4 r5 b5 D5 O5 bge zw zz
    go_wp2_with fail
    refine E1.out.mono ?_
    rintro e w8 ⟨rfl, n8, rfl⟩
    go_wp2_with fail
    refine (HD.out _).mono ?_
    rintro e w9 ⟨vb, F', l', rfl, H9, L9, F9, V9, K9⟩
    have X2 := E2.out w9 n8 K9
    have X3 := E3.out w9 n8 K9
    have X2 : Hid _ := X2
    have X3 : Hid _ := X3
    have FIN : Hid (HeldV F' l' vb w9 ∧ l'.length ≤ l.length + 1 ∧ (∀ g, F' g → F g ∨ w.heap.size ≤ g) ∧ (∀ g, vb.v.ownBlock = some g → va.v.ownBlock = some g ∨ w.heap.size ≤ g) ∧ Kp (fun g => va.v.ownBlock = some g) w w9) := ⟨H9, L9, fun g hg => (F9 g hg).elim .inl (fun h => h.elim (fun h => .inr (Nat.le_trans WZ.out.2 (BG.out g h))) (fun h => .inr (Nat.le_trans WZ.out.1 h))), fun g hg => (V9 g hg).imp id (fun h => Nat.le_trans WZ.out.1 h), FK.out w9 n8 K9⟩
    clear H9 L9 F9 V9 K9 E1 E2 E3 HD FK
    go_wp2_with fail
    refine (X2.out 0).mono ?_
    rintro e w10 ⟨rfl, n10, rfl⟩
    go_wp2_with fail
    refine (X3.out _).mono ?_
    rintro e w11 ⟨rfl, n11, rfl⟩
    go_wp2_with fail
    go_ret2
    exact ⟨vb, F', l', rfl, FIN.out.1.kp (Kp.of_below (below_drewN (Below.refl _ _) _) (fun _ => False)) (fun _ _ h => h) (fun _ _ h => h), FIN.out.2.1, FIN.out.2.2.1, FIN.out.2.2.2.1, FIN.out.2.2.2.2.drewN _⟩
  · have kb : (o.kind != 5) = true := bne_iff_ne.2 hk
    clear hk
    go_wp2_with fail
    refine (PD.out _ W5).mono ?_
    rintro e v6 ⟨a6, k6, rfl, r6, b6⟩
    have W6 := below_trans W5 b6
    have z6 := b6.size
    have D6 := D5.below b6
    have O6 := O5.below b6
    clear p0 p1 p2 p3 p4 p5 p6 p7 p8 q0 q1 q2 q3 q4 q5 D5 O5
    have p0 := D6.cell 0 _ rfl
    have p1 := D6.cell 1 _ rfl
    have p2 := D6.cell 2 _ rfl
    have p3 := D6.cell 3 _ rfl
    have p4 := D6.cell 4 _ rfl
    have p5 := D6.cell 5 _ rfl
    have p6 := D6.cell 6 _ rfl
    have p7 := D6.cell 7 _ rfl
    have p8 := D6.cell 8 _ rfl
    have q0 := O6.cell 0 _ rfl
    have q1 := O6.cell 1 _ rfl
    have q2 := O6.cell 2 _ rfl
    have q3 := O6.cell 3 _ rfl
    have q4 := O6.cell 4 _ rfl
    have q5 := O6.cell 5 _ rfl
    go_wp2_with fail
    refine (PD.out _ W6).mono ?_
    rintro e v7 ⟨a7, k7, rfl, r7, b7⟩
    have W7 := below_trans W6 b7
    have z7 := b7.size
    have D7 := D6.below b7
    have O7 := O6.below b7
    clear p0 p1 p2 p3 p4 p5 p6 p7 p8 q0 q1 q2 q3 q4 q5 D6 O6
    have p0 := D7.cell 0 _ rfl
    have p1 := D7.cell 1 _ rfl
    have p2 := D7.cell 2 _ rfl
    have p3 := D7.cell 3 _ rfl
    have p4 := D7.cell 4 _ rfl
    have p5 := D7.cell 5 _ rfl
    have p6 := D7.cell 6 _ rfl
    have p7 := D7.cell 7 _ rfl
    have p8 := D7.cell 8 _ rfl
    have q0 := O7.cell 0 _ rfl
    have q1 := O7.cell 1 _ rfl
    have q2 := O7.cell 2 _ rfl
    have q3 := O7.cell 3 _ rfl
    have q4 := O7.cell 4 _ rfl
    have q5 := O7.cell 5 _ rfl
    go_wp2_with fail
    refine (PR.out _ W7).mono ?_
    rintro e v8 ⟨a8, k8, rfl, r8, b8⟩
    have W8 := below_trans W7 b8
    have z8 := b8.size
    have D8 := D7.below b8
    have O8 := O7.below b8
    clear p0 p1 p2 p3 p4 p5 p6 p7 p8 q0 q1 q2 q3 q4 q5 D7 O7
    have p0 := D8.cell 0 _ rfl
    have p1 := D8.cell 1 _ rfl
    have p2 := D8.cell 2 _ rfl
    have p3 := D8.cell 3 _ rfl
    have p4 := D8.cell 4 _ rfl
    have p5 := D8.cell 5 _ rfl
    have p6 := D8.cell 6 _ rfl
    have p7 := D8.cell 7 _ rfl
    have p8 := D8.cell 8 _ rfl
    have q0 := O8.cell 0 _ rfl
    have q1 := O8.cell 1 _ rfl
    have q2 := O8.cell 2 _ rfl
    have q3 := O8.cell 3 _ rfl
    have q4 := O8.cell 4 _ rfl
    have q5 := O8.cell 5 _ rfl
    go_wp2_with fail
    refine (FD.out _ W8).mono ?_
    rintro e v9 ⟨a9, k9, rfl, r9, b9⟩
    have W9 := below_trans W8 b9
    have z9 := b9.size
    have D9 := D8.below b9
    have O9 := O8.below b9
    clear p0 p1 p2 p3 p4 p5 p6 p7 p8 q0 q1 q2 q3 q4 q5 D8 O8
    have p0 := D9.cell 0 _ rfl
    have p1 := D9.cell 1 _ rfl
    have p2 := D9.cell 2 _ rfl
    have p3 := D9.cell 3 _ rfl
    have p4 := D9.cell 4 _ rfl
    have p5 := D9.cell 5 _ rfl
    have p6 := D9.cell 6 _ rfl
    have p7 := D9.cell 7 _ rfl
    have p8 := D9.cell 8 _ rfl
    have q0 := O9.cell 0 _ rfl
    have q1 := O9.cell 1 _ rfl
    have q2 := O9.cell 2 _ rfl
    have q3 := O9.cell 3 _ rfl
    have q4 := O9.cell 4 _ rfl
    have q5 := O9.cell 5 _ rfl
    go_wp2_with fail
    refine (FR.out _ W9).mono ?_
    rintro e v10 ⟨a10, k10, rfl, r10, b10⟩
    have W10 := below_trans W9 b10
    have z10 := b10.size
    have D10 := D9.below b10
    have O10 := O9.below b10
    clear p0 p1 p2 p3 p4 p5 p6 p7 p8 q0 q1 q2 q3 q4 q5 D9 O9
    have p0 := D10.cell 0 _ rfl
    have p1 := D10.cell 1 _ rfl
    have p2 := D10.cell 2 _ rfl
    have p3 := D10.cell 3 _ rfl
    have p4 := D10.cell 4 _ rfl
    have p5 := D10.cell 5 _ rfl
    have p6 := D10.cell 6 _ rfl
    have p7 := D10.cell 7 _ rfl
    have p8 := D10.cell 8 _ rfl
    have q0 := O10.cell 0 _ rfl
    have q1 := O10.cell 1 _ rfl
    have q2 := O10.cell 2 _ rfl
    have q3 := O10.cell 3 _ rfl
    have q4 := O10.cell 4 _ rfl
    have q5 := O10.cell 5 _ rfl
    have RB : RowB 5 v5.heap.size v10 _ dl := RowV.later (RowV.later (RowV.later (RowV.later (r6) b7) b8) b9) b10
    have RT : RowB 5 v6.heap.size v10 _ dl := RowV.later (RowV.later (RowV.later (r7) b8) b9) b10
    have RO : RowB 5 v7.heap.size v10 _ rl := RowV.later (RowV.later (r8) b9) b10
    have RC : RowB 5 v8.heap.size v10 _ dl := RowV.later (r9) b10
    have RD : RowB 5 v9.heap.size v10 _ rl := r10
    have eb : (de == de) = true := by simp
    have HL := HH.out.kp (Kp.of_below W10 (fun _ => False)) (fun _ _ h => h) (fun _ _ h => h)
    have vlt : ∀ g, va.v.ownBlock = some g → g < w.heap.size := fun g hg => (World.ownsRow.lt HH.out.row g hg).2
    have flt : ∀ g, F g → g < w.heap.size := HH.out.s
    have zw := W0.size
    have zz : w3.heap.size ≤ v10.heap.size ∧ w3.heap.size ≤ v5.heap.size := by omega
    have bge : ∀ g, (Value.slice a6 dl.length k6).ownBlock = some g → w3.heap.size ≤ g ∧ g < v6.heap.size := fun g hg => ⟨by have := RB.block_ge hg; omega, r6.block_lt hg⟩
    have E1 : Hid (Calls _ _ _ _ _) := EQ.out v10 _ _ dl (by omega) RB.rd RC.rd
    have HD : Hid (∀ n, Calls Try.prog 25 #[.slice va.a va.n va.c, .slice a6 dl.length k6] (v10.drewN n) _) := fun n => hold_at F l va ⟨a6, dl.length, k6⟩ dl (v10.drewN n) (HL.kp (Kp.of_below (below_drewN (Below.refl _ _) n) (fun _ => False)) (fun _ _ h => h) (fun _ _ h => h)) hl _ (RowV.drewN RB n) (by omega) (fun g hg => ⟨fun hf => by have := flt g hf; have := bge g hg; omega, fun hv => by have := vlt g hv; have := bge g hg; omega⟩)
    have E2 : Hid (∀ w9 n, Kp (fun g => (Value.slice a6 dl.length k6).ownBlock = some g ∨ va.v.ownBlock = some g) (v10.drewN n) w9 → ∀ m, Calls Try.prog 14 #[.slice a7 dl.length k7, .slice a9 dl.length k9] (w9.drewN m) fun e w'' => e = .returned (.bool true) ∧ ∃ n, w'' = (w9.drewN m).drewN n) := fun w9 n kp m => EQ.out (w9.drewN m) _ _ dl (by omega) (Rd.drewN ((RowV.drewN RT n).kp kp (fun g hg e => e.elim (fun e => by have := bge g e; have := RT.block_ge hg; omega) (fun e => by have := vlt g e; have := RT.block_ge hg; omega))).rd m) (Rd.drewN ((RowV.drewN RC n).kp kp (fun g hg e => e.elim (fun e => by have := bge g e; have := RC.block_ge hg; omega) (fun e => by have := vlt g e; have := RC.block_ge hg; omega))).rd m)
    have E3 : Hid (∀ w9 n, Kp (fun g => (Value.slice a6 dl.length k6).ownBlock = some g ∨ va.v.ownBlock = some g) (v10.drewN n) w9 → ∀ m, Calls Try.prog 14 #[.slice a8 rl.length k8, .slice a10 rl.length k10] (w9.drewN m) fun e w'' => e = .returned (.bool true) ∧ ∃ n, w'' = (w9.drewN m).drewN n) := fun w9 n kp m => EQ.out (w9.drewN m) _ _ rl (by omega) (Rd.drewN ((RowV.drewN RO n).kp kp (fun g hg e => e.elim (fun e => by have := bge g e; have := RO.block_ge hg; omega) (fun e => by have := vlt g e; have := RO.block_ge hg; omega))).rd m) (Rd.drewN ((RowV.drewN RD n).kp kp (fun g hg e => e.elim (fun e => by have := bge g e; have := RD.block_ge hg; omega) (fun e => by have := vlt g e; have := RD.block_ge hg; omega))).rd m)
    have FK : Hid (∀ w9 n, Kp (fun g => (Value.slice a6 dl.length k6).ownBlock = some g ∨ va.v.ownBlock = some g) (v10.drewN n) w9 → Kp (fun g => va.v.ownBlock = some g) w w9) := fun w9 n kp => (Kp.of_below (below_drewN W10 n) _).trans kp (fun g hg e => e.elim (fun e => by have := bge g e; omega) id)
    have WZ : Hid (w.heap.size ≤ v10.heap.size ∧ w.heap.size ≤ w3.heap.size) := ⟨W10.size, W0.size⟩
    have BG : Hid (∀ g, (Value.slice a6 dl.length k6).ownBlock = some g → w3.heap.size ≤ g) := fun g hg => (bge g hg).1
    clear RB RT RO RC RD HL vlt flt r1 b1 r2 b2 r3 b3 r4 b4 r5 b5 r6 b6 r7 b7 r8 b8 r9 b9 r10 b10 D10 O10 bge zw zz
    go_wp2_with fail
    refine E1.out.mono ?_
    rintro e w8 ⟨rfl, n8, rfl⟩
    go_wp2_with fail
    refine (HD.out _).mono ?_
    rintro e w9 ⟨vb, F', l', rfl, H9, L9, F9, V9, K9⟩
    have X2 := E2.out w9 n8 K9
    have X3 := E3.out w9 n8 K9
    have X2 : Hid _ := X2
    have X3 : Hid _ := X3
    have FIN : Hid (HeldV F' l' vb w9 ∧ l'.length ≤ l.length + 1 ∧ (∀ g, F' g → F g ∨ w.heap.size ≤ g) ∧ (∀ g, vb.v.ownBlock = some g → va.v.ownBlock = some g ∨ w.heap.size ≤ g) ∧ Kp (fun g => va.v.ownBlock = some g) w w9) := ⟨H9, L9, fun g hg => (F9 g hg).elim .inl (fun h => h.elim (fun h => .inr (Nat.le_trans WZ.out.2 (BG.out g h))) (fun h => .inr (Nat.le_trans WZ.out.1 h))), fun g hg => (V9 g hg).imp id (fun h => Nat.le_trans WZ.out.1 h), FK.out w9 n8 K9⟩
    clear H9 L9 F9 V9 K9 E1 E2 E3 HD FK
    go_wp2_with fail
    refine (X2.out 0).mono ?_
    rintro e w10 ⟨rfl, n10, rfl⟩
    go_wp2_with fail
    refine (X3.out _).mono ?_
    rintro e w11 ⟨rfl, n11, rfl⟩
    go_wp2_with fail
    go_ret2
    exact ⟨vb, F', l', rfl, FIN.out.1.kp (Kp.of_below (below_drewN (Below.refl _ _) _) (fun _ => False)) (fun _ _ h => h) (fun _ _ h => h), FIN.out.2.1, FIN.out.2.2.1, FIN.out.2.2.2.1, FIN.out.2.2.2.2.drewN _⟩
end Go.Proofs.Ytiefnomldfhhnaa

namespace Go.Proofs.Ytiefnomldfhhnaa
open Go.RowKit

/-- A pair's data. -/
structure PD where
  R : Nat
  S : Nat → Prop
  T : Nat → Prop
  t : Dk
  x0 : Sl
  x1 : Sl
  p0 : Sl
  p1 : Sl
  xa : Sl
  cn : Int
abbrev PD.In (w0 : World) (p : PD) (w : World) : Prop := PrIn w0 p.R p.S p.T p.t p.x0 p.x1 p.p0 p.p1 p.xa p.cn w
abbrev PD.V (p : PD) : List Value := PV p.R p.x0 p.x1 p.p0 p.p1 p.xa p.cn p.t.dn p.t.wr
def PD.B (p : PD) (g : Nat) : Prop := p.S g ∨ p.T g
theorem PD.lt {w0 : World} {p : PD} {w : World} (h : p.In w0 w) {g : Nat} (hg : p.B g) : g < w.heap.size := hg.elim (h.d.at_.size g) (h.r.s g)
theorem PD.ge {w0 : World} {p : PD} {w : World} (h : p.In w0 w) {g : Nat} (hg : p.B g) : w0.heap.size ≤ g := hg.elim (h.d.new g) (h.tn g)
theorem PD.kp {w0 : World} {p : PD} {w w' : World} {M : Nat → Prop} (h : p.In w0 w) (k : Kp M w w') (hm : ∀ g, p.B g → ¬ M g) (hM : ∀ g, M g → w0.heap.size ≤ g) : p.In w0 w' := PrIn.kp h k (fun g hg => hm g (.inl hg)) (fun g hg => hm g (.inr hg)) hM
/-- Behind a step. -/
def PD.Post (w0 : World) (p : PD) (w : World) (p' : PD) (w' : World) : Prop := p'.In w0 w' ∧ (∀ g, p'.B g → p.B g ∨ w.heap.size ≤ g) ∧ Kp p.B w w' ∧ p.t.wr ≤ p'.t.wr ∧ p'.t.wr ≤ p.t.wr + 1
theorem PD.Post.of {w0 : World} {p : PD} {w w' : World} {t' : Dk} {y0 y1 q0 q1 ya : Sl} {cm : Int} (h : PrPost w0 p.R p.S p.T w t' y0 y1 q0 q1 ya cm w') (hw : p.t.wr ≤ t'.wr ∧ t'.wr ≤ p.t.wr + 1) : ∃ S' T', PD.Post w0 p w ⟨p.R, S', T', t', y0, y1, q0, q1, ya, cm⟩ w' := by
  obtain ⟨S', T', a, b, c, d⟩ := h
  exact ⟨S', T', a, fun g hg => hg.elim (fun h => (b g h).imp .inl id) (fun h => (c g h).imp .inr id), d.mono (fun g _ hg => .inl hg), hw⟩
theorem step_write (w0 : World) (p : PD) (w : World) (h : p.In w0 w) (hw : 0 ≤ p.t.wr ∧ p.t.wr < 4611686018427387904) (o : OpD) (x : Option Addr) (c : Nat) (hl : o.data.length ≤ 1048576) (hd : ∀ w', Below w0.heap.size w0 w' → RdB w' (.slice x o.data.length c) o.data) (hk : 1 ≤ o.kind ∧ o.kind ≤ 4) :
    Calls Try.prog 16 #[.agg p.V.toArray, opd o x c] w fun e w' => ∃ p', e = .returned (.tuple #[.agg (PD.V p').toArray, .bool true]) ∧ PD.Post w0 p w p' w' := by
  have dw := done_wr p.t o
  unfold Dk.done at dw
  by_cases k1 : o.kind = 1
  · rw [if_pos (.inl k1)] at dw
    refine (write_app w0 p.R p.S p.T p.t p.x0 p.x1 p.p0 p.p1 p.xa p.cn w h hw o x c hl hd k1).mono ?_
    rintro e w' ⟨y0, y1, q0, q1, ya, cm, rfl, pp⟩
    obtain ⟨S', T', q⟩ := PD.Post.of pp dw
    exact ⟨_, rfl, q⟩
  by_cases k2 : o.kind = 2
  · rw [if_pos (.inr k2)] at dw
    refine (write_fill w0 p.R p.S p.T p.t p.x0 p.x1 p.p0 p.p1 p.xa p.cn w h hw o x c hl hd k2).mono ?_
    rintro e w' ⟨y0, y1, q0, q1, ya, cm, rfl, pp⟩
    obtain ⟨S', T', q⟩ := PD.Post.of pp dw
    exact ⟨_, rfl, q⟩
  rw [if_neg (by omega)] at dw
  by_cases k3 : o.kind = 3
  · rw [if_pos k3] at dw
    refine (write_sync w0 p.R p.S p.T p.t p.x0 p.x1 p.p0 p.p1 p.xa p.cn w h hw o x c k3).mono ?_
    rintro e w' ⟨y0, y1, q0, q1, ya, cm, rfl, pp⟩
    obtain ⟨S', T', q⟩ := PD.Post.of pp dw
    exact ⟨_, rfl, q⟩
  have k4 : o.kind = 4 := by omega
  rw [if_neg k3, if_pos k4] at dw
  refine (write_trunc w0 p.R p.S p.T p.t p.x0 p.x1 p.p0 p.p1 p.xa p.cn w h hw o x c k4).mono ?_
  rintro e w' ⟨y0, y1, q0, q1, ya, cm, rfl, pp⟩
  obtain ⟨S', T', q⟩ := PD.Post.of pp dw
  exact ⟨_, rfl, q⟩
theorem step_order (w0 : World) (p : PD) (w : World) (h : p.In w0 w) (hw : 0 ≤ p.t.wr ∧ p.t.wr < 4611686018427387904) (o : OpD) (x : Option Addr) (c : Nat) (hk : ¬ (1 ≤ o.kind ∧ o.kind ≤ 4)) :
    Calls Try.prog 17 #[.agg p.V.toArray, opd o x c] w fun e w' => ∃ p', e = .returned (.tuple #[.agg (PD.V p').toArray, .bool true]) ∧ PD.Post w0 p w p' w' := by
  have dw := done_wr p.t o
  unfold Dk.done at dw
  rw [if_neg (by omega), if_neg (by omega), if_neg (by omega)] at dw
  by_cases k7 : o.kind = 7
  · rw [if_pos k7] at dw
    refine (order_arm w0 p.R p.S p.T p.t p.x0 p.x1 p.p0 p.p1 p.xa p.cn w h hw o x c k7).mono ?_
    rintro e w' ⟨y0, y1, q0, q1, ya, cm, rfl, pp⟩
    obtain ⟨S', T', q⟩ := PD.Post.of pp dw
    exact ⟨_, rfl, q⟩
  rw [if_neg k7] at dw
  by_cases k8 : o.kind = 8
  · rw [if_pos k8] at dw
    refine (order_disarm w0 p.R p.S p.T p.t p.x0 p.x1 p.p0 p.p1 p.xa p.cn w h hw o x c k8).mono ?_
    rintro e w' ⟨y0, y1, q0, q1, ya, cm, rfl, pp⟩
    obtain ⟨S', T', q⟩ := PD.Post.of pp dw
    exact ⟨_, rfl, q⟩
  rw [if_neg k8] at dw
  by_cases k9 : o.kind = 9
  · rw [if_pos k9] at dw
    refine (order_restart w0 p.R p.S p.T p.t p.x0 p.x1 p.p0 p.p1 p.xa p.cn w h hw o x c k9).mono ?_
    rintro e w' ⟨y0, y1, q0, q1, ya, cm, rfl, pp⟩
    obtain ⟨S', T', q⟩ := PD.Post.of pp dw
    exact ⟨_, rfl, q⟩
  rw [if_neg k9] at dw
  have fin : ∀ (e : Ending) (w' : World), (∃ y0 y1 q0 q1 ya cm, e = .returned (.tuple #[.agg (PV p.R y0 y1 q0 q1 ya cm p.t.dn p.t.wr).toArray, .bool true]) ∧ PrPost w0 p.R p.S p.T w p.t y0 y1 q0 q1 ya cm w') → ∃ p', e = .returned (.tuple #[.agg (PD.V p').toArray, .bool true]) ∧ PD.Post w0 p w p' w' := by
    rintro e w' ⟨y0, y1, q0, q1, ya, cm, rfl, pp⟩
    obtain ⟨S', T', q⟩ := PD.Post.of pp dw
    exact ⟨_, rfl, q⟩
  by_cases k10 : o.kind = 10
  · exact (order_down w0 p.R p.S p.T p.t p.x0 p.x1 p.p0 p.p1 p.xa p.cn w h hw o x c k10).mono fin
  by_cases k11 : o.kind = 11
  · exact (order_wr w0 p.R p.S p.T p.t p.x0 p.x1 p.p0 p.p1 p.xa p.cn w h hw o x c k11).mono fin
  exact (order_other w0 p.R p.S p.T p.t p.x0 p.x1 p.p0 p.p1 p.xa p.cn w h hw o x c ⟨k7, k8, k9, k10, k11⟩).mono fin

/-- Two pairs at Q1 and Q2, and what was kept. -/
structure U5 (w0 : World) (Q1 Q2 : Nat) (p1 p2 : PD) (F : Nat → Prop) (l : List He) (va : Sl) (w : World) : Prop where
  a : p1.In w0 w
  b : p2.In w0 w
  q1 : Blk Q1 37 p1.V w
  q2 : Blk Q2 37 p2.V w
  h : HeldV F l va w
  ab : ∀ g, p1.B g → ¬ p2.B g
  fa : ∀ g, F g ∨ va.v.ownBlock = some g → (¬ p1.B g ∧ ¬ p2.B g) ∧ g ≠ Q1 ∧ g ≠ Q2
  fw : ∀ g, F g ∨ va.v.ownBlock = some g → w0.heap.size ≤ g ∧ g < w.heap.size
  na : ¬ p1.B Q1 ∧ ¬ p1.B Q2
  nb : ¬ p2.B Q1 ∧ ¬ p2.B Q2
  ne : Q1 ≠ Q2
  l1 : w0.heap.size ≤ Q1
  l2 : w0.heap.size ≤ Q2
theorem U5.bel {w0 w : World} {Q1 Q2 : Nat} {p1 p2 : PD} {F : Nat → Prop} {l : List He} {va : Sl} (h : U5 w0 Q1 Q2 p1 p2 F l va w) : Below w0.heap.size w0 w := h.a.d.bel
theorem U5.swap {w0 w : World} {Q1 Q2 : Nat} {p1 p2 : PD} {F : Nat → Prop} {l : List He} {va : Sl} (h : U5 w0 Q1 Q2 p1 p2 F l va w) : U5 w0 Q2 Q1 p2 p1 F l va w :=
  ⟨h.b, h.a, h.q2, h.q1, h.h, fun g h1 h2 => h.ab g h2 h1, fun g hg => ⟨⟨(h.fa g hg).1.2, (h.fa g hg).1.1⟩, (h.fa g hg).2.2, (h.fa g hg).2.1⟩, h.fw, ⟨h.nb.2, h.nb.1⟩, ⟨h.na.2, h.na.1⟩, h.ne.symm, h.l2, h.l1⟩
/-- What lies apart from all may change. -/
theorem U5.kp {w0 w w' : World} {Q1 Q2 : Nat} {p1 p2 : PD} {F M : Nat → Prop} {l : List He} {va : Sl} (h : U5 w0 Q1 Q2 p1 p2 F l va w) (k : Kp M w w') (hM : ∀ g, M g → w.heap.size ≤ g) : U5 w0 Q1 Q2 p1 p2 F l va w' := by
  have s := h.bel.size
  have k1 := h.q1.lt
  have k2 := h.q2.lt
  exact ⟨PD.kp h.a k (fun g hg hm => by have := PD.lt h.a hg; have := hM g hm; omega) (fun g hm => by have := hM g hm; omega), PD.kp h.b k (fun g hg hm => by have := PD.lt h.b hg; have := hM g hm; omega) (fun g hm => by have := hM g hm; omega), h.q1.kp k (fun hm => by have := hM _ hm; omega), h.q2.kp k (fun hm => by have := hM _ hm; omega),
    h.h.kp k (fun g hg hm => by have := (h.fw g (.inl hg)).2; have := hM g hm; omega) (fun g hg hm => by have := (h.fw g (.inr hg)).2; have := hM g hm; omega), h.ab, h.fa, fun g hg => ⟨(h.fw g hg).1, Nat.lt_of_lt_of_le (h.fw g hg).2 k.size⟩, h.na, h.nb, h.ne, h.l1, h.l2⟩
theorem U5.below {w0 w w' : World} {Q1 Q2 : Nat} {p1 p2 : PD} {F : Nat → Prop} {l : List He} {va : Sl} (h : U5 w0 Q1 Q2 p1 p2 F l va w) (b : Below w.heap.size w w') : U5 w0 Q1 Q2 p1 p2 F l va w' := h.kp (Kp.of_below b (fun _ => False)) (fun _ h => h.elim)
/-- The first has made a step, and lies at Q1 again. -/
theorem U5.one {w0 w w1 w2 w3 w4 : World} {Q1 Q2 : Nat} {p1 p2 p' : PD} {F M : Nat → Prop} {l : List He} {va : Sl} (h : U5 w0 Q1 Q2 p1 p2 F l va w) (k1 : Below w.heap.size w w1) (p : PD.Post w0 p1 w1 p' w2) (k3 : Kp M w2 w3) (hM : ∀ g, M g → w.heap.size ≤ g ∧ g < w1.heap.size) (q : Blk Q1 37 p'.V w4) (g4 : w3.grownBy w4 (some Q1)) : U5 w0 Q1 Q2 p' p2 F l va w4 := by
  have h1 := h.below k1
  obtain ⟨i2, n2, k2, _⟩ := p
  have k4 : Kp (fun g => some Q1 = some g) w3 w4 := Kp.of_grown g4
  have s0 := h.bel.size
  have s1 := k1.size
  have lq1 := h.q1.lt
  have lq2 := h.q2.lt
  have c1 : ¬ p'.B Q1 := fun e => (n2 _ e).elim h.na.1 (fun e => by omega)
  have c2 : ¬ p'.B Q2 := fun e => (n2 _ e).elim h.na.2 (fun e => by omega)
  have mB : ∀ g, p'.B g → ¬ M g := fun g hg hm => by
    have := hM g hm
    rcases n2 g hg with e | e
    · have := PD.lt h.a e; omega
    · omega
  have r : ∀ g, g < w.heap.size → ¬ M g := fun g hg hm => by have := hM g hm; omega
  have mW : ∀ g, M g → w0.heap.size ≤ g := fun g hm => by have := hM g hm; omega
  have i4 : p'.In w0 w4 := PD.kp (PD.kp i2 k3 mB mW) k4 (fun g hg e => by cases e; exact c1 hg) (fun g e => by cases e; exact h.l1)
  have b2 := PD.kp h1.b k2 (fun g hg e => h.ab g e hg) (fun g e => PD.ge h.a e)
  have b3 := PD.kp b2 k3 (fun g hg => r g (PD.lt h.b hg)) mW
  have b4 := PD.kp b3 k4 (fun g hg e => by cases e; exact h.nb.1 hg) (fun g e => by cases e; exact h.l1)
  have q24 := ((h1.q2.kp k2 h.na.2).kp k3 (r _ lq2)).kp k4 (fun e => by cases e; exact h.ne rfl)
  have f2 := h1.h.kp k2 (fun g hg e => (h.fa g (.inl hg)).1.1 e) (fun g hg e => (h.fa g (.inr hg)).1.1 e)
  have f3 := f2.kp k3 (fun g hg => r g (h.fw g (.inl hg)).2) (fun g hg => r g (h.fw g (.inr hg)).2)
  have f4 := f3.kp k4 (fun g hg e => by cases e; exact (h.fa _ (.inl hg)).2.1 rfl) (fun g hg e => by cases e; exact (h.fa _ (.inr hg)).2.1 rfl)
  refine ⟨i4, b4, q, q24, f4, fun g e1 e2 => ?_, fun g hg => ⟨⟨fun e => ?_, (h.fa g hg).1.2⟩, (h.fa g hg).2⟩, fun g hg => ⟨(h.fw g hg).1, ?_⟩, ⟨c1, c2⟩, h.nb, h.ne, h.l1, h.l2⟩
  · rcases n2 g e1 with e | e
    · exact h.ab g e e2
    · have := PD.lt h.b e2; omega
  · rcases n2 g e with e | e
    · exact (h.fa g hg).1.1 e
    · have := (h.fw g hg).2; omega
  · have := (h.fw g hg).2; have := k2.size; have := k3.size; have := k4.size; omega
/-- What was kept has grown; the first lies at Q1 as before. -/
theorem U5.look {w0 w w1 w2 w4 : World} {Q1 Q2 : Nat} {p1 p2 : PD} {F F' : Nat → Prop} {l l' : List He} {va vb : Sl} (h : U5 w0 Q1 Q2 p1 p2 F l va w) (k1 : Below w.heap.size w w1) (hh : HeldV F' l' vb w2) (nF : ∀ g, F' g → F g ∨ w1.heap.size ≤ g) (nv : ∀ g, vb.v.ownBlock = some g → va.v.ownBlock = some g ∨ w1.heap.size ≤ g) (k2 : Kp (fun g => va.v.ownBlock = some g) w1 w2) (q : Blk Q1 37 p1.V w4) (g4 : w2.grownBy w4 (some Q1)) : U5 w0 Q1 Q2 p1 p2 F' l' vb w4 := by
  have h1 := h.below k1
  have k4 : Kp (fun g => some Q1 = some g) w2 w4 := Kp.of_grown g4
  have s0 := h.bel.size
  have s1 := k1.size
  have lq1 := h.q1.lt
  have lq2 := h.q2.lt
  have fn : ∀ g, F' g ∨ vb.v.ownBlock = some g → (F g ∨ va.v.ownBlock = some g) ∨ w1.heap.size ≤ g := fun g hg => hg.elim (fun e => (nF g e).imp .inl id) (fun e => (nv g e).imp .inr id)
  have vlt : ∀ g, vb.v.ownBlock = some g → g < w2.heap.size := fun g hg => (World.ownsRow.lt hh.row g hg).2
  have mW : ∀ g, va.v.ownBlock = some g → w0.heap.size ≤ g := fun g e => (h.fw g (.inr e)).1
  have nq : ∀ g, F' g ∨ vb.v.ownBlock = some g → g ≠ Q1 ∧ g ≠ Q2 := fun g hg => by
    rcases fn g hg with e | e
    · exact (h.fa g e).2
    · omega
  have a4 := PD.kp (PD.kp h1.a k2 (fun g hg e => (h.fa g (.inr e)).1.1 hg) mW) k4 (fun g hg e => by cases e; exact h.na.1 hg) (fun g e => by cases e; exact h.l1)
  have b4 := PD.kp (PD.kp h1.b k2 (fun g hg e => (h.fa g (.inr e)).1.2 hg) mW) k4 (fun g hg e => by cases e; exact h.nb.1 hg) (fun g e => by cases e; exact h.l1)
  have q24 := (h1.q2.kp k2 (fun e => (h.fa _ (.inr e)).2.2 rfl)).kp k4 (fun e => by cases e; exact h.ne rfl)
  have f4 := hh.kp k4 (fun g hg e => by cases e; exact (nq _ (.inl hg)).1 rfl) (fun g hg e => by cases e; exact (nq _ (.inr hg)).1 rfl)
  refine ⟨a4, b4, q, q24, f4, h.ab, fun g hg => ⟨⟨fun e => ?_, fun e => ?_⟩, nq g hg⟩, fun g hg => ⟨?_, ?_⟩, h.na, h.nb, h.ne, h.l1, h.l2⟩
  · rcases fn g hg with e2 | e2
    · exact (h.fa g e2).1.1 e
    · have := PD.lt h.a e; omega
  · rcases fn g hg with e2 | e2
    · exact (h.fa g e2).1.2 e
    · have := PD.lt h.b e; omega
  · rcases fn g hg with e2 | e2
    · exact (h.fw g e2).1
    · omega
  · have := k4.size
    rcases hg with e | e
    · have := hh.s g e; omega
    · have := vlt g e; omega
end Go.Proofs.Ytiefnomldfhhnaa

namespace Go.Proofs.Ytiefnomldfhhnaa
open Go.RowKit

theorem range6 {w : World} {g o : Nat} {c0 c1 c2 c3 c4 c5 : Value} (h0 : w.cell? ⟨g, o, none⟩ = some c0) (h1 : w.cell? ⟨g, o + 1, none⟩ = some c1) (h2 : w.cell? ⟨g, o + 2, none⟩ = some c2) (h3 : w.cell? ⟨g, o + 3, none⟩ = some c3) (h4 : w.cell? ⟨g, o + 4, none⟩ = some c4) (h5 : w.cell? ⟨g, o + 5, none⟩ = some c5) : w.rangeAt g o [c0, c1, c2, c3, c4, c5] := fun j v hj => by
  have hl : j < 6 := (List.getElem?_eq_some_iff.1 hj).1
  have hc : j = 0 ∨ j = 1 ∨ j = 2 ∨ j = 3 ∨ j = 4 ∨ j = 5 := by omega
  rcases hc with rfl | rfl | rfl | rfl | rfl | rfl <;> (simp at hj; subst hj; assumption)
/-- What lies apart from all that is held may change. -/
theorem U5.kpA {w0 w w' : World} {Q1 Q2 : Nat} {p1 p2 : PD} {F M : Nat → Prop} {l : List He} {va : Sl} (h : U5 w0 Q1 Q2 p1 p2 F l va w) (k : Kp M w w') (hM : ∀ g, M g → w0.heap.size ≤ g ∧ (¬ p1.B g ∧ ¬ p2.B g ∧ g ≠ Q1 ∧ g ≠ Q2) ∧ ¬ (F g ∨ va.v.ownBlock = some g)) : U5 w0 Q1 Q2 p1 p2 F l va w' :=
  ⟨PD.kp h.a k (fun g hg hm => (hM g hm).2.1.1 hg) (fun g hm => (hM g hm).1), PD.kp h.b k (fun g hg hm => (hM g hm).2.1.2.1 hg) (fun g hm => (hM g hm).1), h.q1.kp k (fun hm => (hM _ hm).2.1.2.2.1 rfl), h.q2.kp k (fun hm => (hM _ hm).2.1.2.2.2 rfl),
    h.h.kp k (fun g hg hm => (hM g hm).2.2 (.inl hg)) (fun g hg hm => (hM g hm).2.2 (.inr hg)), h.ab, h.fa, fun g hg => ⟨(h.fw g hg).1, Nat.lt_of_lt_of_le (h.fw g hg).2 k.size⟩, h.na, h.nb, h.ne, h.l1, h.l2⟩
/-- A pair that has just been made. -/
def NewP (w0 wb : World) (Q : Nat) (p : PD) (w : World) : Prop := p.In w0 w ∧ (∀ g, p.B g → wb.heap.size ≤ g) ∧ Blk Q 37 p.V w ∧ wb.heap.size ≤ Q ∧ ¬ p.B Q ∧ p.t.wr = 0
theorem NewP.mk {w0 wb w1 w2 w3 : World} {R Q : Nat} {S : Nat → Prop} {fs ss : List Nat} {y0 y1 : Sl} (hb : Below w0.heap.size w0 wb) (d : DkAt R S (Dk.load fs ss) w1) (nS : ∀ g, S g → wb.heap.size ≤ g) (b1 : Below wb.heap.size wb w1) (rn : RfNew (fun _ => False) w1 (Dk.load fs ss) y0 y1 Sl.z Sl.z Sl.z 0 w2) (eQ : w2.heap.size = Q) (b3 : Below w2.heap.size w2 w3) (q : Blk Q 37 (PV R y0 y1 Sl.z Sl.z Sl.z 0 false 0) w3) :
    ∃ T, NewP w0 wb Q ⟨R, S, T, Dk.load fs ss, y0, y1, Sl.z, Sl.z, Sl.z, 0⟩ w3 := by
  obtain ⟨T, v, nT, b2⟩ := rn
  have s0 := hb.size
  have s1 := b1.size
  have s2 := b2.size
  have nT' : ∀ g, T g → w1.heap.size ≤ g := fun g hg => (nT g hg).elim (fun h => h.elim) id
  refine ⟨T, ⟨⟨⟨(d.below b2).below b3, fun g hg => by have := nS g hg; omega, below_trans (below_trans (below_trans hb b1) b2) b3⟩, v.below b3, fun g hg hs => ?_, fun g hg => by have := nT' g hg; omega⟩, fun g hg => ?_, q, by omega, fun hg => ?_, rfl⟩⟩
  · have := d.size g hs; have := nT' g hg; omega
  · rcases hg with h | h
    · exact nS g h
    · have := nT' g h; omega
  · rcases hg with h | h
    · have := d.size _ h; omega
    · have := v.s _ h; omega
theorem U5.start {w0 wb w3 w6 : World} {Q1 Q2 : Nat} {p1 p2 : PD} (hb : Below w0.heap.size w0 wb) (h1 : NewP w0 wb Q1 p1 w3) (b6 : Below w3.heap.size w3 w6) (h2 : NewP w0 w3 Q2 p2 w6) : U5 w0 Q1 Q2 p1 p2 (fun _ => False) [] Sl.z w6 ∧ ∀ g, g < wb.heap.size → ¬ p1.B g ∧ ¬ p2.B g ∧ g ≠ Q1 ∧ g ≠ Q2 := by
  obtain ⟨i1, n1, q1, l1, a1, _⟩ := h1
  obtain ⟨i2, n2, q2, l2, a2, _⟩ := h2
  have k1 := q1.lt
  have z0 := hb.size
  have nf : ∀ g, ¬ ((fun _ : Nat => False) g ∨ Sl.z.v.ownBlock = some g) := fun g hg => by
    rcases hg with h | h
    · exact h
    · cases h
  refine ⟨⟨i1.below b6, i2, q1.below b6, q2, HeldV.nil _, fun g e1 e2 => ?_, fun g hg => absurd hg (nf g), fun g hg => absurd hg (nf g), ⟨a1, fun e => ?_⟩, ⟨fun e => ?_, a2⟩, by omega, by omega, by omega⟩, fun g hg => ⟨fun e => ?_, fun e => ?_, by omega, by omega⟩⟩
  · have := PD.lt i1 e1; have := n2 g e2; omega
  · have := PD.lt i1 e; omega
  · have := n2 _ e; omega
  · have := n1 g e; omega
  · have := n2 g e; omega
end Go.Proofs.Ytiefnomldfhhnaa

namespace Go.Proofs.Ytiefnomldfhhnaa
open Go.RowKit

set_option maxRecDepth 100000 in
set_option maxHeartbeats 4000000 in
/-- UpTo's last part: the script. -/
theorem upTo_at (fs ss : List Nat) (os : List OpD) (vf vs vo : Value) (lo hi : Int) (w : World) (hf : fs.length ≤ 1048576) (hs : ss.length ≤ 1048576) (hl : ∀ o ∈ os, o.data.length ≤ 1048576) (hn : os.length ≤ 1048600) (h1 : RdB w vf fs) (h2 : RdB w vs ss) (h3 : RdO w vo os) :
    Calls Try.prog 8 #[vf, vs, vo, .int .i64 lo, .int .i64 hi] w fun e w' => e = .returned (.bool true) ∧ Below w.heap.size w w' := by
  obtain ⟨ao, cap, rfl, hrest⟩ := id h3
  clear hrest
  obtain ⟨fa, fc, rfl, hr1, hr2⟩ := h1.len
  obtain ⟨sa, sc, rfl, hr3, hr4⟩ := h2.len
  clear hr1 hr2 hr3 hr4
  rw [List.length_map] at h1 h2 ⊢
  rw [List.length_map]
  have OPS : Hid (∀ i, i < os.length → ∃ (o : OpD) (g off : Nat) (x : Option Addr) (c : Nat), ao = some ⟨g, off, none⟩ ∧ o.data.length ≤ 1048576 ∧ ∀ w', Below w.heap.size w w' → w'.cell? ⟨g, off + i * 6, none⟩ = some (.int .i64 o.kind) ∧ w'.cell? ⟨g, off + i * 6 + 1, none⟩ = some (.bool o.other) ∧ w'.cell? ⟨g, off + i * 6 + 2, none⟩ = some (.int .i64 o.file) ∧ w'.cell? ⟨g, off + i * 6 + 3, none⟩ = some (.int .i64 o.a) ∧ w'.cell? ⟨g, off + i * 6 + 4, none⟩ = some (.int .i64 o.b) ∧ w'.cell? ⟨g, off + i * 6 + 5, none⟩ = some (.slice x o.data.length c) ∧ RdB w' (.slice x o.data.length c) o.data) := fun i hi => RdO.op h3 hl i hi
  have CP : Hid (∀ (bs : List Nat) v w', bs.length ≤ 1048576 → RdB w' v bs → Calls Try.prog 10 #[v] w' (NewB w' bs)) := fun bs v w' hl hr => lcopied_at bs v w' (by omega) hr
  have LP : Hid (∀ (xs ys : List Nat) va vb w', xs.length ≤ 1048576 → ys.length ≤ 1048576 → RdB w' va xs → RdB w' vb ys → Calls Try.prog 11 #[va, vb] w' (NewD w' (Dk.load xs ys))) := fun xs ys va vb w' h1 h2 h3 h4 => load_at xs ys va vb w' (by omega) (by omega) h3 h4
  have LR : Hid (∀ (xs ys : List Nat) va vb w', xs.length ≤ 1048576 → ys.length ≤ 1048576 → RdB w' va xs → RdB w' vb ys → Calls Try.prog 12 #[va, vb] w' fun e w2 => ∃ y0 y1, e = .returned (.agg (RV y0 y1 Sl.z Sl.z Sl.z 0 false 0).toArray) ∧ RfNew (fun _ => False) w' (Dk.load xs ys) y0 y1 Sl.z Sl.z Sl.z 0 w2) := fun xs ys va vb w' h1 h2 h3 h4 => rload_at xs ys va vb w' (by omega) (by omega) h3 h4
  have NW : Hid (∀ w', Calls Try.prog 13 #[] w' (NewD w' (Dk.load [] []))) := fun w' => new_at w'
  have EQ : Hid (∀ (xs : List Nat) va vb w', xs.length ≤ 100000000 → RdB w' va xs → RdB w' vb xs → Calls Try.prog 14 #[va, vb] w' fun e w2 => e = .returned (.bool true) ∧ Below w'.heap.size w' w2) := fun xs va vb w' hl h1 h2 => (equal_at xs xs va vb w' (by omega) h1 h2).mono fun e w2 ⟨he, m, hw⟩ => ⟨by rw [he]; simp, by rw [hw]; exact below_drewN (Below.refl _ _) m⟩
  have WR : Hid (∀ (p : PD) (w' : World) (o : OpD) (x : Option Addr) (c : Nat), p.In w w' → (0 ≤ p.t.wr ∧ p.t.wr < 4611686018427387904) → (o.data.length ≤ 1048576 ∧ ∀ w', Below w.heap.size w w' → RdB w' (.slice x o.data.length c) o.data) → (1 ≤ o.kind ∧ o.kind ≤ 4) → Calls Try.prog 16 #[.agg p.V.toArray, .agg (OD o.kind o.other o.file o.a o.b x o.data.length c).toArray] w' fun e w2 => ∃ p', e = .returned (.tuple #[.agg (PD.V p').toArray, .bool true]) ∧ PD.Post w p w' p' w2) := fun p w' o x c h hw hd hk => step_write w p w' h hw o x c hd.1 hd.2 hk
  have OR : Hid (∀ (p : PD) (w' : World) (o : OpD) (x : Option Addr) (c : Nat), p.In w w' → (0 ≤ p.t.wr ∧ p.t.wr < 4611686018427387904) → ¬ (1 ≤ o.kind ∧ o.kind ≤ 4) → Calls Try.prog 17 #[.agg p.V.toArray, .agg (OD o.kind o.other o.file o.a o.b x o.data.length c).toArray] w' fun e w2 => ∃ p', e = .returned (.tuple #[.agg (PD.V p').toArray, .bool true]) ∧ PD.Post w p w' p' w2) := fun p w' o x c h hw hk => step_order w p w' h hw o x c hk
  have LK : Hid (∀ (p : PD) (w' : World) (o : OpD) (x : Option Addr) (c : Nat) (F : Nat → Prop) (l : List He) (va : Sl), p.In w w' → HeldV F l va w' → l.length ≤ 2000000 → Calls Try.prog 15 #[.agg p.V.toArray, .agg (OD o.kind o.other o.file o.a o.b x o.data.length c).toArray, .slice va.a va.n va.c] w' fun e w2 => ∃ (vb : Sl) (F' : Nat → Prop) (l' : List He), e = .returned (.tuple #[.slice vb.a vb.n vb.c, .bool true]) ∧ HeldV F' l' vb w2 ∧ l'.length ≤ l.length + 1 ∧ (∀ g, F' g → F g ∨ w'.heap.size ≤ g) ∧ (∀ g, vb.v.ownBlock = some g → va.v.ownBlock = some g ∨ w'.heap.size ≤ g) ∧ Kp (fun g => va.v.ownBlock = some g) w' w2) := fun p w' o x c F l va h hh hl => look_at w p.R p.S p.T p.t p.x0 p.x1 p.p0 p.p1 p.xa p.cn w' h o x c F l va hh hl
  have HC : Hid (∀ (F : Nat → Prop) (l : List He) (va : Sl) w', HeldV F l va w' → l.length ≤ 2000001 → Calls Try.prog 18 #[.slice va.a va.n va.c] w' fun e w2 => e = .returned (.bool true) ∧ Below w'.heap.size w' w2) := fun F l va w' h hl => held_at F l va w' h hl
  have R1 : Hid (RdB w (.slice fa fs.length fc) fs ∧ RdB w (.slice sa ss.length sc) ss ∧ fs.length ≤ 1048576 ∧ ss.length ≤ 1048576) := ⟨h1, h2, hf, hs⟩
  obtain ⟨n, hn'⟩ : ∃ n, os.length = n := ⟨_, rfl⟩
  obtain ⟨LA, hLA⟩ : ∃ n, fs.length = n := ⟨_, rfl⟩
  obtain ⟨LB, hLB⟩ : ∃ n, ss.length = n := ⟨_, rfl⟩
  rw [hn'] at OPS hn ⊢
  rw [hLA, hLB] at R1 ⊢
  have HLL : Hid (fs.length = LA ∧ ss.length = LB) := ⟨hLA, hLB⟩
  have bLA : LA ≤ 1048576 := R1.out.2.2.1
  have bLB : LB ≤ 1048576 := R1.out.2.2.2
  clear h1 h2 h3 hf hs hl hn' hLA hLB
  go_enter Try.func8, Try.ntmps8
  go_wp2_with fail
  refine (CP.out fs _ _ (by rw [HLL.out.1]; exact bLA) R1.out.1).mono ?_
  rintro e wa ⟨v1, rfl, ra, ba⟩
  obtain ⟨xa, ca, rfl, hq1, hq2⟩ := ra.rd.len
  clear hq1 hq2
  rw [List.length_map, HLL.out.1] at ra ⊢
  have S1 : Hid (RowB 5 w.heap.size wa (.slice xa LA ca) fs ∧ Below w.heap.size w wa) := ⟨ra, ba⟩
  clear ra ba
  go_wp2_with fail
  refine (CP.out ss _ _ (by rw [HLL.out.2]; exact bLB) (Rd.later R1.out.2.1 S1.out.2)).mono ?_
  rintro e wb ⟨v2, rfl, rb, bb⟩
  obtain ⟨xb, cb, rfl, hq1, hq2⟩ := rb.rd.len
  clear hq1 hq2
  rw [List.length_map, HLL.out.2] at rb ⊢
  have S2 : Hid (RowB 5 w.heap.size wb (.slice xa LA ca) fs ∧ RowB 5 w.heap.size wb (.slice xb LB cb) ss ∧ Below w.heap.size w wb) := ⟨S1.out.1.later bb, rb.mono S1.out.2.size, below_trans S1.out.2 bb⟩
  have OA : Hid (∀ g, xa = some ⟨g, 0, none⟩ → w.heap.size ≤ g ∧ g < wb.heap.size) := fun g e => World.ownsRow.lt S2.out.1 g (by rw [e]; rfl)
  have OB : Hid (∀ g, xb = some ⟨g, 0, none⟩ → w.heap.size ≤ g ∧ g < wb.heap.size) := fun g e => World.ownsRow.lt S2.out.2.1 g (by rw [e]; rfl)
  clear rb bb S1 CP
  go_wp2_with fail
  refine (LP.out fs ss _ _ _ (by rw [HLL.out.1]; exact bLA) (by rw [HLL.out.2]; exact bLB) S2.out.1.rd S2.out.2.1.rd).mono ?_
  rintro e w1 ⟨Ra, Sa, rfl, d1, n1, b1⟩
  have S3 : Hid (DkAt Ra Sa (Dk.load fs ss) w1 ∧ (∀ g, Sa g → wb.heap.size ≤ g) ∧ Below wb.heap.size wb w1 ∧ Below w.heap.size w w1) := ⟨d1, n1, b1, below_trans S2.out.2.2 b1⟩
  clear d1 n1 b1 LP
  go_wp2_with fail
  refine (LR.out fs ss _ _ _ (by rw [HLL.out.1]; exact bLA) (by rw [HLL.out.2]; exact bLB) (Rd.later R1.out.1 S3.out.2.2.2) (Rd.later R1.out.2.1 S3.out.2.2.2)).mono ?_
  rintro e w2 ⟨y0, y1, rfl, rn⟩
  have S4 : Hid (∃ T, NewP w wb w2.heap.size ⟨Ra, Sa, T, Dk.load fs ss, y0, y1, Sl.z, Sl.z, Sl.z, 0⟩ (w2.alloc (.cells (PV Ra y0 y1 Sl.z Sl.z Sl.z 0 false 0).toArray 37))) := NewP.mk S2.out.2.2 S3.out.1 S3.out.2.1 S3.out.2.2.1 rn rfl (below_alloc _ _) (Blk.new 37 _ w2)
  have S4s : Hid (Below wb.heap.size wb (w2.alloc (.cells (PV Ra y0 y1 Sl.z Sl.z Sl.z 0 false 0).toArray 37))) := by obtain ⟨_, _, _, b2⟩ := rn; exact below_trans (below_trans S3.out.2.2.1 b2) (below_alloc _ _)
  clear rn S3
  go_wp2_with fail
  generalize (w2.alloc (.cells (PV Ra y0 y1 Sl.z Sl.z Sl.z 0 false 0).toArray 37)) = w3 at *
  obtain ⟨Q1, hQ1⟩ : ∃ Q, w2.heap.size = Q := ⟨_, rfl⟩
  rw [hQ1] at S4 ⊢
  clear hQ1
  obtain ⟨T1, hT1⟩ := S4.out
  obtain ⟨p1, hp1⟩ : ∃ p, p = (⟨Ra, Sa, T1, Dk.load fs ss, y0, y1, Sl.z, Sl.z, Sl.z, 0⟩ : PD) := ⟨_, rfl⟩
  rw [← hp1] at hT1
  have P1 : Hid (NewP w wb Q1 p1 w3) := hT1
  clear hT1 S4 hp1
  refine (NW.out _).mono ?_
  rintro e w4 ⟨Rb, Sb, rfl, d4, n4, b4⟩
  have S5 : Hid (DkAt Rb Sb (Dk.load [] []) w4 ∧ (∀ g, Sb g → w3.heap.size ≤ g) ∧ Below w3.heap.size w3 w4) := ⟨d4, n4, b4⟩
  clear d4 n4 b4 NW
  go_wp2_with fail
  refine (LR.out [] [] _ _ _ (by simp) (by simp) (RowV.nil 5 0 _).rd (RowV.nil 5 0 _).rd).mono ?_
  rintro e w5 ⟨u0, u1, rfl, rn⟩
  have S6 : Hid (∃ T, NewP w w3 w5.heap.size ⟨Rb, Sb, T, Dk.load [] [], u0, u1, Sl.z, Sl.z, Sl.z, 0⟩ (w5.alloc (.cells (PV Rb u0 u1 Sl.z Sl.z Sl.z 0 false 0).toArray 37))) := NewP.mk (below_trans S2.out.2.2 S4s.out) S5.out.1 S5.out.2.1 S5.out.2.2 rn rfl (below_alloc _ _) (Blk.new 37 _ w5)
  have S6s : Hid (Below w3.heap.size w3 (w5.alloc (.cells (PV Rb u0 u1 Sl.z Sl.z Sl.z 0 false 0).toArray 37))) := by obtain ⟨_, _, _, b2⟩ := rn; exact below_trans (below_trans S5.out.2.2 b2) (below_alloc _ _)
  clear rn S5 LR
  go_upto_region 5 with fail
  generalize (w5.alloc (.cells (PV Rb u0 u1 Sl.z Sl.z Sl.z 0 false 0).toArray 37)) = w6 at *
  obtain ⟨Q2, hQ2⟩ : ∃ Q, w5.heap.size = Q := ⟨_, rfl⟩
  rw [hQ2] at S6 ⊢
  clear hQ2
  obtain ⟨T2, hT2⟩ := S6.out
  obtain ⟨p2, hp2⟩ : ∃ p, p = (⟨Rb, Sb, T2, Dk.load [] [], u0, u1, Sl.z, Sl.z, Sl.z, 0⟩ : PD) := ⟨_, rfl⟩
  rw [← hp2] at hT2
  have HW0 : Hid (p1.t.wr = 0 ∧ p2.t.wr = 0) := ⟨P1.out.2.2.2.2.2, hT2.2.2.2.2.2⟩
  have UX := U5.start S2.out.2.2 P1.out S6s.out hT2
  have HX : Hid (∀ g, g < wb.heap.size → ¬ p1.B g ∧ ¬ p2.B g ∧ g ≠ Q1 ∧ g ≠ Q2) := UX.2
  have HV : Hid (U5 w Q1 Q2 p1 p2 (fun _ => False) [] Sl.z w6 ∧ Below wb.heap.size wb w6) := ⟨UX.1, below_trans S4s.out S6s.out⟩
  clear UX hT2 S6 hp2 P1 S4s S6s
  have c1 := HV.out.1.q1.cell 0 _ rfl
  have c2 := HV.out.1.q2.cell 0 _ rfl
  go_wp2_with fail
  refine (EQ.out fs _ _ _ (by rw [HLL.out.1]; omega) (S2.out.1.later HV.out.2).rd (Rd.later R1.out.1 HV.out.1.bel)).mono ?_
  rintro e w7 ⟨rfl, b7⟩
  have HV7 : Hid (U5 w Q1 Q2 p1 p2 (fun _ => False) [] Sl.z w7 ∧ Below wb.heap.size wb w7) := ⟨HV.out.1.below b7, below_trans HV.out.2 b7⟩
  clear b7 HV c1 c2
  go_wp2_with fail
  refine (EQ.out ss _ _ _ (by rw [HLL.out.2]; omega) (S2.out.2.1.later HV7.out.2).rd (Rd.later R1.out.2.1 HV7.out.1.bel)).mono ?_
  rintro e w8 ⟨rfl, b8⟩
  have HU : Hid (U5 w Q1 Q2 p1 p2 (fun _ => False) [] Sl.z w8 ∧ HasRow w8 (.slice xa LA ca) LA ∧ HasRow w8 (.slice xb LB cb) LB) := ⟨HV7.out.1.below b8, ⟨_, by rw [List.length_map]; exact HLL.out.1, (S2.out.1.later (below_trans HV7.out.2 b8)).mono (Nat.zero_le _)⟩, ⟨_, by rw [List.length_map]; exact HLL.out.2, (S2.out.2.1.later (below_trans HV7.out.2 b8)).mono (Nat.zero_le _)⟩⟩
  clear b8 HV7 EQ S2 R1
  go_upto_block 0 with fail
  go_cut [15] from 56 to 68 (fun _ wx => Hid (U5 w Q1 Q2 p1 p2 (fun _ => False) [] Sl.z wx ∧ HasRow wx (.slice xa LA ca) LA ∧ HasRow wx (.slice xb LB cb) LB))
  case first =>
    go_wp2_with fail
    go_loopw [15] (fun vi wr => ∃ i : Nat, vi = .int .i64 (i : Int) ∧ i ≤ LA ∧ i ≤ 4096 ∧ Hid (U5 w Q1 Q2 p1 p2 (fun _ => False) [] Sl.z wr ∧ HasRow wr (.slice xa LA ca) LA ∧ HasRow wr (.slice xb LB cb) LB)) (fun vi _ => LA - (intOf vi).toNat)
    case atStart => exact ⟨0, rfl, by omega, by omega, HU.out⟩
    case round =>
      obtain ⟨i, rfl, hi1, hi2, B⟩ := hrel
      clear HU
      by_cases hlt : (i : Int) < (LA : Int)
      · by_cases h4 : (i : Int) < 4096
        · obtain ⟨g, u, e, hcu, hfu⟩ := B.out.2.1.at (i := i) (by omega)
          subst e
          have B2 : Hid (U5 w Q1 Q2 p1 p2 (fun _ => False) [] Sl.z (wr.setCell ⟨g, i, none⟩ (.int .u8 99)) ∧ HasRow (wr.setCell ⟨g, i, none⟩ (.int .u8 99)) (.slice (some ⟨g, 0, none⟩) LA ca) LA ∧ HasRow (wr.setCell ⟨g, i, none⟩ (.int .u8 99)) (.slice xb LB cb) LB) := ⟨B.out.1.kpA (Kp.of_grown (setCell_grown wr g i (.int .u8 99))) (fun q hq => by injection hq with hq; subst hq; have h9 := OA.out g rfl; exact ⟨h9.1, HX.out g h9.2, fun h => by rcases h with h | h; exact h; cases h⟩), B.out.2.1.set g i (.int .u8 99), B.out.2.2.set g i (.int .u8 99)⟩
          clear B
          go_wp2_with fail
          go_roundw
          case rel => exact ⟨i + 1, by go_num, by omega, by omega, B2.out⟩
          case measure => simp [intOf]; omega
        · go_wp2_with fail
          go_meet
          exact B.out
      · go_wp2_with fail
        go_meet
        exact B.out
  case rest =>
  clear HU
  have HU : Hid (U5 w Q1 Q2 p1 p2 (fun _ => False) [] Sl.z wc ∧ HasRow wc (.slice xa LA ca) LA ∧ HasRow wc (.slice xb LB cb) LB) := hcut.out
  clear hcut
  obtain ⟨wd, hwd⟩ : ∃ y, y = wc := ⟨_, rfl⟩
  subst hwd
  go_upto_block 2 with fail
  go_cut [16] from 69 to 81 (fun _ wx => Hid (U5 w Q1 Q2 p1 p2 (fun _ => False) [] Sl.z wx ∧ HasRow wx (.slice xa LA ca) LA ∧ HasRow wx (.slice xb LB cb) LB))
  case first =>
    go_wp2_with fail
    go_loopw [16] (fun vi wr => ∃ i : Nat, vi = .int .i64 (i : Int) ∧ i ≤ LB ∧ i ≤ 4096 ∧ Hid (U5 w Q1 Q2 p1 p2 (fun _ => False) [] Sl.z wr ∧ HasRow wr (.slice xa LA ca) LA ∧ HasRow wr (.slice xb LB cb) LB)) (fun vi _ => LB - (intOf vi).toNat)
    case atStart => exact ⟨0, rfl, by omega, by omega, HU.out⟩
    case round =>
      obtain ⟨i, rfl, hi1, hi2, B⟩ := hrel
      clear HU
      by_cases hlt : (i : Int) < (LB : Int)
      · by_cases h4 : (i : Int) < 4096
        · obtain ⟨g, u, e, hcu, hfu⟩ := B.out.2.2.at (i := i) (by omega)
          subst e
          have B2 : Hid (U5 w Q1 Q2 p1 p2 (fun _ => False) [] Sl.z (wr.setCell ⟨g, i, none⟩ (.int .u8 98)) ∧ HasRow (wr.setCell ⟨g, i, none⟩ (.int .u8 98)) (.slice xa LA ca) LA ∧ HasRow (wr.setCell ⟨g, i, none⟩ (.int .u8 98)) (.slice (some ⟨g, 0, none⟩) LB cb) LB) := ⟨B.out.1.kpA (Kp.of_grown (setCell_grown wr g i (.int .u8 98))) (fun q hq => by injection hq with hq; subst hq; have h9 := OB.out g rfl; exact ⟨h9.1, HX.out g h9.2, fun h => by rcases h with h | h; exact h; cases h⟩), B.out.2.1.set g i (.int .u8 98), B.out.2.2.set g i (.int .u8 98)⟩
          clear B
          go_wp2_with fail
          go_roundw
          case rel => exact ⟨i + 1, by go_num, by omega, by omega, B2.out⟩
          case measure => simp [intOf]; omega
        · go_wp2_with fail
          go_meet
          exact B.out
      · go_wp2_with fail
        go_meet
        exact B.out
  case rest =>
  clear HU
  have HU : Hid (U5 w Q1 Q2 p1 p2 (fun _ => False) [] Sl.z wc) := hcut.out.1
  clear hcut
  clear HX OA OB
  go_wp2_with fail
  go_loopw [17, 18, 19, 20, 21] (fun vl vi _ _ _ wr => ∃ (i : Nat) (p1 p2 : PD) (F : Nat → Prop) (l : List He) (va : Sl), vl = .slice va.a va.n va.c ∧ vi = .int .i64 (i : Int) ∧ i ≤ n ∧ Hid (l.length ≤ i ∧ (0 ≤ p1.t.wr ∧ p1.t.wr ≤ i) ∧ (0 ≤ p2.t.wr ∧ p2.t.wr ≤ i) ∧ U5 w Q1 Q2 p1 p2 F l va wr)) (fun _ vi _ _ _ _ => n - (intOf vi).toNat)
  case atStart => exact ⟨0, p1, p2, _, [], Sl.z, rfl, rfl, by omega, by simp, by rw [HW0.out.1]; simp, by rw [HW0.out.2]; simp, HU.out⟩
  case round =>
    clear HU HW0

    obtain ⟨i, p1, p2, F, l, va, rfl, rfl, hi, SX⟩ := hrel
    by_cases hlt : (i : Int) < (n : Int)
    · obtain ⟨o, g, off, x, c, rfl, hdl, oc⟩ := OPS.out i (by omega)
      obtain ⟨kind, other, file, oa, ob, ds⟩ := o
      obtain ⟨z0, z1, z2, z3, z4, z5, z6⟩ := oc wr SX.out.2.2.2.bel
      have OKD : Hid (ds.length ≤ 1048576 ∧ ∀ w', Below w.heap.size w w' → RdB w' (.slice x ds.length c) ds) := ⟨hdl, fun w' hb => (oc w' hb).2.2.2.2.2.2⟩
      clear oc hdl
      cases other
      · have RG : Hid (wr.rangeAt g (off + i * 6) (OD kind false file oa ob x ds.length c)) := range6 z0 z1 z2 z3 z4 z5
        clear z0 z1 z2 z3 z4 z5 z6 OPS
        have NB : Hid (Blk wr.heap.size 28 [.int .i64 0, .bool false, .int .i64 0, .int .i64 0, .int .i64 0, .slice none 0 0] (wr.alloc (.cells #[.int .i64 0, .bool false, .int .i64 0, .int .i64 0, .int .i64 0, .slice none 0 0] 28))) := Blk.new 28 [.int .i64 0, .bool false, .int .i64 0, .int .i64 0, .int .i64 0, .slice none 0 0] wr
        go_upto_region 20 with (first
          | (refine step_load rfl 28 _ rfl g (off + i * 6) rfl (OD kind false file oa ob x ds.length c) _ RG.out Try.underlying28 rfl (infoOd _ _ _ _ _ _ _ _) ?_)
          | (refine step_store rfl 28 _ _ rfl wr.heap.size 0 28 [.int .i64 0, .bool false, .int .i64 0, .int .i64 0, .int .i64 0, .slice none 0 0] (OD kind false file oa ob x ds.length c) rfl rfl NB.out (Nat.le_refl _) (infoOd _ _ _ _ _ _ _ _) (oneOd _ _ _ _ _ _ _ _) ?_; intro w5 b5 g5))
        have B5 : Hid (Blk wr.heap.size 28 (OD kind false file oa ob x ds.length c) w5 ∧ Below wr.heap.size wr w5) := ⟨b5, (below_alloc wr _).grown g5 (below_alloc wr _).size (fun k e => by cases e; exact Nat.le_refl _)⟩
        clear b5 g5 NB RG
        obtain ⟨Q, hQ⟩ : ∃ Q, wr.heap.size = Q := ⟨_, rfl⟩
        have HQ : Hid (wr.heap.size = Q) := hQ
        have B5' : Hid (Blk Q 28 (OD kind false file oa ob x ds.length c) w5) := by rw [← hQ]; exact B5.out.1
        have NP : Hid (Blk w5.heap.size 37 PZ (w5.alloc (.cells PZ.toArray 37)) ∧ Blk Q1 37 p1.V (w5.alloc (.cells PZ.toArray 37)) ∧ Blk Q1 37 p1.V w5) := ⟨Blk.new 37 _ w5, (SX.out.2.2.2.q1.below B5.out.2).below (below_alloc _ _), SX.out.2.2.2.q1.below B5.out.2⟩
        rw [hQ]
        clear hQ
        go_upto_region 21 with (first
          | (refine step_load rfl 37 _ rfl Q1 0 rfl p1.V _ (NP.out.2.2.range 0 9) Try.underlying37 rfl (infoPr _ _ _ _ _ _ _ _ _) ?_)
          | (refine step_store rfl 37 _ _ rfl w5.heap.size 0 37 PZ p1.V rfl rfl NP.out.1 (Nat.le_refl _) (infoPr _ _ _ _ _ _ _ _ _) (onePv _ _ _ _ _ _ _ _ _) ?_; intro w7 b6 g6))
        have BX : Hid (Blk Q 28 (OD kind false file oa ob x ds.length c) w7 ∧ Blk w5.heap.size 37 p1.V w7 ∧ Below wr.heap.size wr w7 ∧ Q < w5.heap.size) := ⟨((B5'.out.below (below_alloc _ _)).grown g6 (by have := B5'.out.lt; omega)), b6, (below_trans B5.out.2 (below_alloc w5 (.cells PZ.toArray 37))).grown g6 (below_trans B5.out.2 (below_alloc w5 (.cells PZ.toArray 37))).size (fun k e => by cases e; exact B5.out.2.size), B5'.out.lt⟩
        clear b6 g6 NP
        obtain ⟨P, hP⟩ : ∃ P, w5.heap.size = P := ⟨_, rfl⟩
        rw [hP] at BX ⊢
        clear hP B5 B5'
        have k1 := BX.out.1.cell 1 _ rfl
        have BW : Hid (Below wr.heap.size wr w7) := BX.out.2.2.1
        have B2 : Hid (Blk Q 28 (OD kind false file oa ob x ds.length c) w7 ∧ Blk P 37 p1.V w7 ∧ Q < P) := ⟨BX.out.1, BX.out.2.1, BX.out.2.2.2⟩
        go_upto_region 23 with fail
        clear BX k1
        have U9 : Hid (U5 w Q1 Q2 p1 p2 F l va w7) := SX.out.2.2.2.below BW.out
        have k0 := B2.out.1.cell 0 _ rfl
        have k1 := B2.out.1.cell 1 _ rfl
        by_cases h5 : kind = 5
        · have e5 : (kind == 5) = true := by simp [h5]
          clear h5
          go_wp2_with (first
            | (refine step_load rfl 37 _ rfl P 0 rfl p1.V _ (B2.out.2.1.range 0 9) Try.underlying37 rfl (infoPr _ _ _ _ _ _ _ _ _) ?_)
            | (refine step_load rfl 28 _ rfl Q 0 rfl (OD kind false file oa ob x ds.length c) _ (B2.out.1.range 0 6) Try.underlying28 rfl (infoOd _ _ _ _ _ _ _ _) ?_))
          refine (LK.out p1 _ ⟨kind, false, file, oa, ob, ds⟩ x c F l va (U9.out.a) U9.out.h (by have := SX.out.1; omega)).mono ?_
          rintro e w8 ⟨vb, F', l', rfl, hh, ll, nF, nv, k8⟩
          have A8 : Hid (Blk Q 28 (OD kind false file oa ob x ds.length c) w8 ∧ Blk P 37 p1.V w8 ∧ Blk Q1 37 p1.V w8 ∧ l'.length ≤ i + 1) := by
            have hv : ∀ g, va.v.ownBlock = some g → g < Q := fun g e => by have := (SX.out.2.2.2.fw g (.inr e)).2; rw [HQ.out] at this; exact this
            exact ⟨B2.out.1.kp k8 (fun e => by have := hv _ e; omega), B2.out.2.1.kp k8 (fun e => by have := hv _ e; have := B2.out.2.2; omega), U9.out.q1.kp k8 (fun e => by have h9 := SX.out.2.2.2.fa _ (.inr e); exact h9.2.1 rfl), by have := SX.out.1; omega⟩
          have PO : Hid (HeldV F' l' vb w8 ∧ (∀ g, F' g → F g ∨ w7.heap.size ≤ g) ∧ (∀ g, vb.v.ownBlock = some g → va.v.ownBlock = some g ∨ w7.heap.size ≤ g) ∧ Kp (fun g => va.v.ownBlock = some g) w7 w8) := ⟨hh, nF, nv, k8⟩
          clear hh ll nF nv k8 k0 k1
          have k1 := A8.out.1.cell 1 _ rfl
          go_wp2_with (first
            | (refine step_load rfl 37 _ rfl P 0 rfl p1.V _ (A8.out.2.1.range 0 9) Try.underlying37 rfl (infoPr _ _ _ _ _ _ _ _ _) ?_)
            | (refine step_store rfl 37 _ _ rfl Q1 0 37 p1.V p1.V rfl rfl A8.out.2.2.1 (Nat.le_refl _) (infoPr _ _ _ _ _ _ _ _ _) (onePv _ _ _ _ _ _ _ _ _) ?_; intro w10 b10 g10; have N9 : Hid (U5 w Q1 Q2 p1 p2 F' l' vb w10) := (U5.look SX.out.2.2.2 BW.out PO.out.1 PO.out.2.1 PO.out.2.2.1 PO.out.2.2.2 b10 g10); clear b10 g10 k1))
          go_roundw
          case rel => exact ⟨i + 1, p1, p2, F', l', vb, rfl, by go_num, by omega, A8.out.2.2.2, by have := SX.out.2.1; omega, by have := SX.out.2.2.1; omega, N9.out⟩
          case measure => simp [intOf]; omega
        by_cases h6 : kind = 6
        · have e5 : (kind == 5) = false := by simp [h6]
          have e6 : (kind == 6) = true := by simp [h6]
          clear h5 h6
          go_wp2_with (first
            | (refine step_load rfl 37 _ rfl P 0 rfl p1.V _ (B2.out.2.1.range 0 9) Try.underlying37 rfl (infoPr _ _ _ _ _ _ _ _ _) ?_)
            | (refine step_load rfl 28 _ rfl Q 0 rfl (OD kind false file oa ob x ds.length c) _ (B2.out.1.range 0 6) Try.underlying28 rfl (infoOd _ _ _ _ _ _ _ _) ?_))
          refine (LK.out p1 _ ⟨kind, false, file, oa, ob, ds⟩ x c F l va (U9.out.a) U9.out.h (by have := SX.out.1; omega)).mono ?_
          rintro e w8 ⟨vb, F', l', rfl, hh, ll, nF, nv, k8⟩
          have A8 : Hid (Blk Q 28 (OD kind false file oa ob x ds.length c) w8 ∧ Blk P 37 p1.V w8 ∧ Blk Q1 37 p1.V w8 ∧ l'.length ≤ i + 1) := by
            have hv : ∀ g, va.v.ownBlock = some g → g < Q := fun g e => by have := (SX.out.2.2.2.fw g (.inr e)).2; rw [HQ.out] at this; exact this
            exact ⟨B2.out.1.kp k8 (fun e => by have := hv _ e; omega), B2.out.2.1.kp k8 (fun e => by have := hv _ e; have := B2.out.2.2; omega), U9.out.q1.kp k8 (fun e => by have h9 := SX.out.2.2.2.fa _ (.inr e); exact h9.2.1 rfl), by have := SX.out.1; omega⟩
          have PO : Hid (HeldV F' l' vb w8 ∧ (∀ g, F' g → F g ∨ w7.heap.size ≤ g) ∧ (∀ g, vb.v.ownBlock = some g → va.v.ownBlock = some g ∨ w7.heap.size ≤ g) ∧ Kp (fun g => va.v.ownBlock = some g) w7 w8) := ⟨hh, nF, nv, k8⟩
          clear hh ll nF nv k8 k0 k1
          have k1 := A8.out.1.cell 1 _ rfl
          go_wp2_with (first
            | (refine step_load rfl 37 _ rfl P 0 rfl p1.V _ (A8.out.2.1.range 0 9) Try.underlying37 rfl (infoPr _ _ _ _ _ _ _ _ _) ?_)
            | (refine step_store rfl 37 _ _ rfl Q1 0 37 p1.V p1.V rfl rfl A8.out.2.2.1 (Nat.le_refl _) (infoPr _ _ _ _ _ _ _ _ _) (onePv _ _ _ _ _ _ _ _ _) ?_; intro w10 b10 g10; have N9 : Hid (U5 w Q1 Q2 p1 p2 F' l' vb w10) := (U5.look SX.out.2.2.2 BW.out PO.out.1 PO.out.2.1 PO.out.2.2.1 PO.out.2.2.2 b10 g10); clear b10 g10 k1))
          go_roundw
          case rel => exact ⟨i + 1, p1, p2, F', l', vb, rfl, by go_num, by omega, A8.out.2.2.2, by have := SX.out.2.1; omega, by have := SX.out.2.2.1; omega, N9.out⟩
          case measure => simp [intOf]; omega
        by_cases h14 : 1 ≤ kind ∧ kind ≤ 4
        · have e5 : (kind == 5) = false := by simp; omega
          have e6 : (kind == 6) = false := by simp; omega
          have e1 : (1 : Int) ≤ kind := h14.1
          have e4 : kind ≤ 4 := h14.2
          go_wp2_with (first
            | (refine step_load rfl 37 _ rfl P 0 rfl p1.V _ (B2.out.2.1.range 0 9) Try.underlying37 rfl (infoPr _ _ _ _ _ _ _ _ _) ?_)
            | (refine step_load rfl 28 _ rfl Q 0 rfl (OD kind false file oa ob x ds.length c) _ (B2.out.1.range 0 6) Try.underlying28 rfl (infoOd _ _ _ _ _ _ _ _) ?_))
          refine (WR.out p1 _ ⟨kind, false, file, oa, ob, ds⟩ x c (U9.out.a) (by have := SX.out.2.1; omega) OKD.out ⟨by omega, by omega⟩).mono ?_
          rintro e w8 ⟨p', rfl, po⟩
          have A8 : Hid (Blk Q 28 (OD kind false file oa ob x ds.length c) w8 ∧ Blk P 37 p1.V w8 ∧ Blk Q1 37 p1.V w8) := by
            have hv : ∀ g, p1.B g → g < Q := fun g e => by have := PD.lt SX.out.2.2.2.a e; rw [HQ.out] at this; exact this
            exact ⟨B2.out.1.kp po.2.2.1 (fun e => by have := hv _ e; omega), B2.out.2.1.kp po.2.2.1 (fun e => by have := hv _ e; have := B2.out.2.2; omega), U9.out.q1.kp po.2.2.1 SX.out.2.2.2.na.1⟩
          have PO : Hid (PD.Post w p1 w7 p' w8) := po
          clear po k0 k1
          go_upto_region 29 with (refine step_store rfl 37 _ _ rfl P 0 37 p1.V p'.V rfl rfl A8.out.2.1 (Nat.le_refl _) (infoPr _ _ _ _ _ _ _ _ _) (onePv _ _ _ _ _ _ _ _ _) ?_; intro w9 b9 g9)
          have A9 : Hid (Blk Q 28 (OD kind false file oa ob x ds.length c) w9 ∧ Blk P 37 p'.V w9 ∧ Blk Q1 37 p1.V w9 ∧ w8.grownBy w9 (some P)) := ⟨A8.out.1.grown g9 (by have := B2.out.2.2; omega), b9, A8.out.2.2.grown g9 (by have h9 := SX.out.2.2.2.q1.lt; have h8 := B2.out.2.2; rw [HQ.out] at h9; omega), g9⟩
          clear b9 g9
          have k1 := A9.out.1.cell 1 _ rfl
          go_wp2_with (first
            | (refine step_load rfl 37 _ rfl P 0 rfl p'.V _ (A9.out.2.1.range 0 9) Try.underlying37 rfl (infoPr _ _ _ _ _ _ _ _ _) ?_)
            | (refine step_store rfl 37 _ _ rfl Q1 0 37 p1.V p'.V rfl rfl A9.out.2.2.1 (Nat.le_refl _) (infoPr _ _ _ _ _ _ _ _ _) (onePv _ _ _ _ _ _ _ _ _) ?_; intro w10 b10 g10; have N9 : Hid (U5 w Q1 Q2 p' p2 F l va w10) := (U5.one (M := fun g => some P = some g) SX.out.2.2.2 BW.out PO.out (Kp.of_grown A9.out.2.2.2) (fun g hg => by injection hg with hg; have h9 := HQ.out; have h8 := B2.out.2.1.lt; have h7 := B2.out.2.2; omega) b10 g10); clear b10 g10 k1))
          go_roundw
          case rel => exact ⟨i + 1, p', p2, F, l, va, rfl, by go_num, by omega, by have := SX.out.1; omega, by have := SX.out.2.1; have := PO.out.2.2.2; omega, by have := SX.out.2.2.1; have := PO.out.2.2.2; omega, N9.out⟩
          case measure => simp [intOf]; omega
        by_cases h1 : (1 : Int) ≤ kind
        · have e5 : (kind == 5) = false := by simp; omega
          have e6 : (kind == 6) = false := by simp; omega
          have e4 : ¬ kind ≤ 4 := by omega
          go_wp2_with (first
            | (refine step_load rfl 37 _ rfl P 0 rfl p1.V _ (B2.out.2.1.range 0 9) Try.underlying37 rfl (infoPr _ _ _ _ _ _ _ _ _) ?_)
            | (refine step_load rfl 28 _ rfl Q 0 rfl (OD kind false file oa ob x ds.length c) _ (B2.out.1.range 0 6) Try.underlying28 rfl (infoOd _ _ _ _ _ _ _ _) ?_))
          refine (OR.out p1 _ ⟨kind, false, file, oa, ob, ds⟩ x c (U9.out.a) (by have := SX.out.2.1; omega) (by show ¬ (1 ≤ kind ∧ kind ≤ 4); omega)).mono ?_
          rintro e w8 ⟨p', rfl, po⟩
          have A8 : Hid (Blk Q 28 (OD kind false file oa ob x ds.length c) w8 ∧ Blk P 37 p1.V w8 ∧ Blk Q1 37 p1.V w8) := by
            have hv : ∀ g, p1.B g → g < Q := fun g e => by have := PD.lt SX.out.2.2.2.a e; rw [HQ.out] at this; exact this
            exact ⟨B2.out.1.kp po.2.2.1 (fun e => by have := hv _ e; omega), B2.out.2.1.kp po.2.2.1 (fun e => by have := hv _ e; have := B2.out.2.2; omega), U9.out.q1.kp po.2.2.1 SX.out.2.2.2.na.1⟩
          have PO : Hid (PD.Post w p1 w7 p' w8) := po
          clear po k0 k1
          go_upto_region 29 with (refine step_store rfl 37 _ _ rfl P 0 37 p1.V p'.V rfl rfl A8.out.2.1 (Nat.le_refl _) (infoPr _ _ _ _ _ _ _ _ _) (onePv _ _ _ _ _ _ _ _ _) ?_; intro w9 b9 g9)
          have A9 : Hid (Blk Q 28 (OD kind false file oa ob x ds.length c) w9 ∧ Blk P 37 p'.V w9 ∧ Blk Q1 37 p1.V w9 ∧ w8.grownBy w9 (some P)) := ⟨A8.out.1.grown g9 (by have := B2.out.2.2; omega), b9, A8.out.2.2.grown g9 (by have h9 := SX.out.2.2.2.q1.lt; have h8 := B2.out.2.2; rw [HQ.out] at h9; omega), g9⟩
          clear b9 g9
          have k1 := A9.out.1.cell 1 _ rfl
          go_wp2_with (first
            | (refine step_load rfl 37 _ rfl P 0 rfl p'.V _ (A9.out.2.1.range 0 9) Try.underlying37 rfl (infoPr _ _ _ _ _ _ _ _ _) ?_)
            | (refine step_store rfl 37 _ _ rfl Q1 0 37 p1.V p'.V rfl rfl A9.out.2.2.1 (Nat.le_refl _) (infoPr _ _ _ _ _ _ _ _ _) (onePv _ _ _ _ _ _ _ _ _) ?_; intro w10 b10 g10; have N9 : Hid (U5 w Q1 Q2 p' p2 F l va w10) := (U5.one (M := fun g => some P = some g) SX.out.2.2.2 BW.out PO.out (Kp.of_grown A9.out.2.2.2) (fun g hg => by injection hg with hg; have h9 := HQ.out; have h8 := B2.out.2.1.lt; have h7 := B2.out.2.2; omega) b10 g10); clear b10 g10 k1))
          go_roundw
          case rel => exact ⟨i + 1, p', p2, F, l, va, rfl, by go_num, by omega, by have := SX.out.1; omega, by have := SX.out.2.1; have := PO.out.2.2.2; omega, by have := SX.out.2.2.1; have := PO.out.2.2.2; omega, N9.out⟩
          case measure => simp [intOf]; omega
        · have e5 : (kind == 5) = false := by simp; omega
          have e6 : (kind == 6) = false := by simp; omega
          go_wp2_with (first
            | (refine step_load rfl 37 _ rfl P 0 rfl p1.V _ (B2.out.2.1.range 0 9) Try.underlying37 rfl (infoPr _ _ _ _ _ _ _ _ _) ?_)
            | (refine step_load rfl 28 _ rfl Q 0 rfl (OD kind false file oa ob x ds.length c) _ (B2.out.1.range 0 6) Try.underlying28 rfl (infoOd _ _ _ _ _ _ _ _) ?_))
          refine (OR.out p1 _ ⟨kind, false, file, oa, ob, ds⟩ x c (U9.out.a) (by have := SX.out.2.1; omega) (by show ¬ (1 ≤ kind ∧ kind ≤ 4); omega)).mono ?_
          rintro e w8 ⟨p', rfl, po⟩
          have A8 : Hid (Blk Q 28 (OD kind false file oa ob x ds.length c) w8 ∧ Blk P 37 p1.V w8 ∧ Blk Q1 37 p1.V w8) := by
            have hv : ∀ g, p1.B g → g < Q := fun g e => by have := PD.lt SX.out.2.2.2.a e; rw [HQ.out] at this; exact this
            exact ⟨B2.out.1.kp po.2.2.1 (fun e => by have := hv _ e; omega), B2.out.2.1.kp po.2.2.1 (fun e => by have := hv _ e; have := B2.out.2.2; omega), U9.out.q1.kp po.2.2.1 SX.out.2.2.2.na.1⟩
          have PO : Hid (PD.Post w p1 w7 p' w8) := po
          clear po k0 k1
          go_upto_region 29 with (refine step_store rfl 37 _ _ rfl P 0 37 p1.V p'.V rfl rfl A8.out.2.1 (Nat.le_refl _) (infoPr _ _ _ _ _ _ _ _ _) (onePv _ _ _ _ _ _ _ _ _) ?_; intro w9 b9 g9)
          have A9 : Hid (Blk Q 28 (OD kind false file oa ob x ds.length c) w9 ∧ Blk P 37 p'.V w9 ∧ Blk Q1 37 p1.V w9 ∧ w8.grownBy w9 (some P)) := ⟨A8.out.1.grown g9 (by have := B2.out.2.2; omega), b9, A8.out.2.2.grown g9 (by have h9 := SX.out.2.2.2.q1.lt; have h8 := B2.out.2.2; rw [HQ.out] at h9; omega), g9⟩
          clear b9 g9
          have k1 := A9.out.1.cell 1 _ rfl
          go_wp2_with (first
            | (refine step_load rfl 37 _ rfl P 0 rfl p'.V _ (A9.out.2.1.range 0 9) Try.underlying37 rfl (infoPr _ _ _ _ _ _ _ _ _) ?_)
            | (refine step_store rfl 37 _ _ rfl Q1 0 37 p1.V p'.V rfl rfl A9.out.2.2.1 (Nat.le_refl _) (infoPr _ _ _ _ _ _ _ _ _) (onePv _ _ _ _ _ _ _ _ _) ?_; intro w10 b10 g10; have N9 : Hid (U5 w Q1 Q2 p' p2 F l va w10) := (U5.one (M := fun g => some P = some g) SX.out.2.2.2 BW.out PO.out (Kp.of_grown A9.out.2.2.2) (fun g hg => by injection hg with hg; have h9 := HQ.out; have h8 := B2.out.2.1.lt; have h7 := B2.out.2.2; omega) b10 g10); clear b10 g10 k1))
          go_roundw
          case rel => exact ⟨i + 1, p', p2, F, l, va, rfl, by go_num, by omega, by have := SX.out.1; omega, by have := SX.out.2.1; have := PO.out.2.2.2; omega, by have := SX.out.2.2.1; have := PO.out.2.2.2; omega, N9.out⟩
          case measure => simp [intOf]; omega
      · have RG : Hid (wr.rangeAt g (off + i * 6) (OD kind true file oa ob x ds.length c)) := range6 z0 z1 z2 z3 z4 z5
        clear z0 z1 z2 z3 z4 z5 z6 OPS
        have NB : Hid (Blk wr.heap.size 28 [.int .i64 0, .bool false, .int .i64 0, .int .i64 0, .int .i64 0, .slice none 0 0] (wr.alloc (.cells #[.int .i64 0, .bool false, .int .i64 0, .int .i64 0, .int .i64 0, .slice none 0 0] 28))) := Blk.new 28 [.int .i64 0, .bool false, .int .i64 0, .int .i64 0, .int .i64 0, .slice none 0 0] wr
        go_upto_region 20 with (first
          | (refine step_load rfl 28 _ rfl g (off + i * 6) rfl (OD kind true file oa ob x ds.length c) _ RG.out Try.underlying28 rfl (infoOd _ _ _ _ _ _ _ _) ?_)
          | (refine step_store rfl 28 _ _ rfl wr.heap.size 0 28 [.int .i64 0, .bool false, .int .i64 0, .int .i64 0, .int .i64 0, .slice none 0 0] (OD kind true file oa ob x ds.length c) rfl rfl NB.out (Nat.le_refl _) (infoOd _ _ _ _ _ _ _ _) (oneOd _ _ _ _ _ _ _ _) ?_; intro w5 b5 g5))
        have B5 : Hid (Blk wr.heap.size 28 (OD kind true file oa ob x ds.length c) w5 ∧ Below wr.heap.size wr w5) := ⟨b5, (below_alloc wr _).grown g5 (below_alloc wr _).size (fun k e => by cases e; exact Nat.le_refl _)⟩
        clear b5 g5 NB RG
        obtain ⟨Q, hQ⟩ : ∃ Q, wr.heap.size = Q := ⟨_, rfl⟩
        have HQ : Hid (wr.heap.size = Q) := hQ
        have B5' : Hid (Blk Q 28 (OD kind true file oa ob x ds.length c) w5) := by rw [← hQ]; exact B5.out.1
        have NP : Hid (Blk w5.heap.size 37 PZ (w5.alloc (.cells PZ.toArray 37)) ∧ Blk Q1 37 p1.V (w5.alloc (.cells PZ.toArray 37)) ∧ Blk Q1 37 p1.V w5) := ⟨Blk.new 37 _ w5, (SX.out.2.2.2.q1.below B5.out.2).below (below_alloc _ _), SX.out.2.2.2.q1.below B5.out.2⟩
        rw [hQ]
        clear hQ
        go_upto_region 21 with (first
          | (refine step_load rfl 37 _ rfl Q1 0 rfl p1.V _ (NP.out.2.2.range 0 9) Try.underlying37 rfl (infoPr _ _ _ _ _ _ _ _ _) ?_)
          | (refine step_store rfl 37 _ _ rfl w5.heap.size 0 37 PZ p1.V rfl rfl NP.out.1 (Nat.le_refl _) (infoPr _ _ _ _ _ _ _ _ _) (onePv _ _ _ _ _ _ _ _ _) ?_; intro w6 b6 g6))
        have BX : Hid (Blk Q 28 (OD kind true file oa ob x ds.length c) w6 ∧ Blk w5.heap.size 37 p1.V w6 ∧ Below wr.heap.size wr w6 ∧ Q < w5.heap.size) := ⟨((B5'.out.below (below_alloc _ _)).grown g6 (by have := B5'.out.lt; omega)), b6, (below_trans B5.out.2 (below_alloc w5 (.cells PZ.toArray 37))).grown g6 (below_trans B5.out.2 (below_alloc w5 (.cells PZ.toArray 37))).size (fun k e => by cases e; exact B5.out.2.size), B5'.out.lt⟩
        clear b6 g6 NP
        obtain ⟨P, hP⟩ : ∃ P, w5.heap.size = P := ⟨_, rfl⟩
        rw [hP] at BX ⊢
        clear hP B5 B5'
        have k1 := BX.out.1.cell 1 _ rfl
        have Y2 : Hid (Blk Q2 37 p2.V w6) := SX.out.2.2.2.q2.below BX.out.2.2.1
        go_upto_region 23 with (first
          | (refine step_load rfl 37 _ rfl Q2 0 rfl p2.V _ (Y2.out.range 0 9) Try.underlying37 rfl (infoPr _ _ _ _ _ _ _ _ _) ?_)
          | (refine step_store rfl 37 _ _ rfl P 0 37 p1.V p2.V rfl rfl BX.out.2.1 (Nat.le_refl _) (infoPr _ _ _ _ _ _ _ _ _) (onePv _ _ _ _ _ _ _ _ _) ?_; intro w7 b7 g7))
        have BW : Hid (Below wr.heap.size wr w7) := BX.out.2.2.1.grown g7 BX.out.2.2.1.size (fun k e => by cases e; have := BX.out.2.2.2; have := HQ.out; omega)
        have B2 : Hid (Blk Q 28 (OD kind true file oa ob x ds.length c) w7 ∧ Blk P 37 p2.V w7 ∧ Q < P) := ⟨BX.out.1.grown g7 (by have := BX.out.2.2.2; omega), b7, BX.out.2.2.2⟩
        clear b7 g7 Y2 BX k1
        have U9 : Hid (U5 w Q1 Q2 p1 p2 F l va w7) := SX.out.2.2.2.below BW.out
        have k0 := B2.out.1.cell 0 _ rfl
        have k1 := B2.out.1.cell 1 _ rfl
        by_cases h5 : kind = 5
        · have e5 : (kind == 5) = true := by simp [h5]
          clear h5
          go_wp2_with (first
            | (refine step_load rfl 37 _ rfl P 0 rfl p2.V _ (B2.out.2.1.range 0 9) Try.underlying37 rfl (infoPr _ _ _ _ _ _ _ _ _) ?_)
            | (refine step_load rfl 28 _ rfl Q 0 rfl (OD kind true file oa ob x ds.length c) _ (B2.out.1.range 0 6) Try.underlying28 rfl (infoOd _ _ _ _ _ _ _ _) ?_))
          refine (LK.out p2 _ ⟨kind, true, file, oa, ob, ds⟩ x c F l va (U9.out.b) U9.out.h (by have := SX.out.1; omega)).mono ?_
          rintro e w8 ⟨vb, F', l', rfl, hh, ll, nF, nv, k8⟩
          have A8 : Hid (Blk Q 28 (OD kind true file oa ob x ds.length c) w8 ∧ Blk P 37 p2.V w8 ∧ Blk Q2 37 p2.V w8 ∧ l'.length ≤ i + 1) := by
            have hv : ∀ g, va.v.ownBlock = some g → g < Q := fun g e => by have := (SX.out.2.2.2.fw g (.inr e)).2; rw [HQ.out] at this; exact this
            exact ⟨B2.out.1.kp k8 (fun e => by have := hv _ e; omega), B2.out.2.1.kp k8 (fun e => by have := hv _ e; have := B2.out.2.2; omega), U9.out.q2.kp k8 (fun e => by have h9 := SX.out.2.2.2.fa _ (.inr e); exact h9.2.2 rfl), by have := SX.out.1; omega⟩
          have PO : Hid (HeldV F' l' vb w8 ∧ (∀ g, F' g → F g ∨ w7.heap.size ≤ g) ∧ (∀ g, vb.v.ownBlock = some g → va.v.ownBlock = some g ∨ w7.heap.size ≤ g) ∧ Kp (fun g => va.v.ownBlock = some g) w7 w8) := ⟨hh, nF, nv, k8⟩
          clear hh ll nF nv k8 k0 k1
          have k1 := A8.out.1.cell 1 _ rfl
          go_wp2_with (first
            | (refine step_load rfl 37 _ rfl P 0 rfl p2.V _ (A8.out.2.1.range 0 9) Try.underlying37 rfl (infoPr _ _ _ _ _ _ _ _ _) ?_)
            | (refine step_store rfl 37 _ _ rfl Q2 0 37 p2.V p2.V rfl rfl A8.out.2.2.1 (Nat.le_refl _) (infoPr _ _ _ _ _ _ _ _ _) (onePv _ _ _ _ _ _ _ _ _) ?_; intro w10 b10 g10; have N9 : Hid (U5 w Q1 Q2 p1 p2 F' l' vb w10) := (U5.look SX.out.2.2.2.swap BW.out PO.out.1 PO.out.2.1 PO.out.2.2.1 PO.out.2.2.2 b10 g10).swap; clear b10 g10 k1))
          go_roundw
          case rel => exact ⟨i + 1, p1, p2, F', l', vb, rfl, by go_num, by omega, A8.out.2.2.2, by have := SX.out.2.1; omega, by have := SX.out.2.2.1; omega, N9.out⟩
          case measure => simp [intOf]; omega
        by_cases h6 : kind = 6
        · have e5 : (kind == 5) = false := by simp [h6]
          have e6 : (kind == 6) = true := by simp [h6]
          clear h5 h6
          go_wp2_with (first
            | (refine step_load rfl 37 _ rfl P 0 rfl p2.V _ (B2.out.2.1.range 0 9) Try.underlying37 rfl (infoPr _ _ _ _ _ _ _ _ _) ?_)
            | (refine step_load rfl 28 _ rfl Q 0 rfl (OD kind true file oa ob x ds.length c) _ (B2.out.1.range 0 6) Try.underlying28 rfl (infoOd _ _ _ _ _ _ _ _) ?_))
          refine (LK.out p2 _ ⟨kind, true, file, oa, ob, ds⟩ x c F l va (U9.out.b) U9.out.h (by have := SX.out.1; omega)).mono ?_
          rintro e w8 ⟨vb, F', l', rfl, hh, ll, nF, nv, k8⟩
          have A8 : Hid (Blk Q 28 (OD kind true file oa ob x ds.length c) w8 ∧ Blk P 37 p2.V w8 ∧ Blk Q2 37 p2.V w8 ∧ l'.length ≤ i + 1) := by
            have hv : ∀ g, va.v.ownBlock = some g → g < Q := fun g e => by have := (SX.out.2.2.2.fw g (.inr e)).2; rw [HQ.out] at this; exact this
            exact ⟨B2.out.1.kp k8 (fun e => by have := hv _ e; omega), B2.out.2.1.kp k8 (fun e => by have := hv _ e; have := B2.out.2.2; omega), U9.out.q2.kp k8 (fun e => by have h9 := SX.out.2.2.2.fa _ (.inr e); exact h9.2.2 rfl), by have := SX.out.1; omega⟩
          have PO : Hid (HeldV F' l' vb w8 ∧ (∀ g, F' g → F g ∨ w7.heap.size ≤ g) ∧ (∀ g, vb.v.ownBlock = some g → va.v.ownBlock = some g ∨ w7.heap.size ≤ g) ∧ Kp (fun g => va.v.ownBlock = some g) w7 w8) := ⟨hh, nF, nv, k8⟩
          clear hh ll nF nv k8 k0 k1
          have k1 := A8.out.1.cell 1 _ rfl
          go_wp2_with (first
            | (refine step_load rfl 37 _ rfl P 0 rfl p2.V _ (A8.out.2.1.range 0 9) Try.underlying37 rfl (infoPr _ _ _ _ _ _ _ _ _) ?_)
            | (refine step_store rfl 37 _ _ rfl Q2 0 37 p2.V p2.V rfl rfl A8.out.2.2.1 (Nat.le_refl _) (infoPr _ _ _ _ _ _ _ _ _) (onePv _ _ _ _ _ _ _ _ _) ?_; intro w10 b10 g10; have N9 : Hid (U5 w Q1 Q2 p1 p2 F' l' vb w10) := (U5.look SX.out.2.2.2.swap BW.out PO.out.1 PO.out.2.1 PO.out.2.2.1 PO.out.2.2.2 b10 g10).swap; clear b10 g10 k1))
          go_roundw
          case rel => exact ⟨i + 1, p1, p2, F', l', vb, rfl, by go_num, by omega, A8.out.2.2.2, by have := SX.out.2.1; omega, by have := SX.out.2.2.1; omega, N9.out⟩
          case measure => simp [intOf]; omega
        by_cases h14 : 1 ≤ kind ∧ kind ≤ 4
        · have e5 : (kind == 5) = false := by simp; omega
          have e6 : (kind == 6) = false := by simp; omega
          have e1 : (1 : Int) ≤ kind := h14.1
          have e4 : kind ≤ 4 := h14.2
          go_wp2_with (first
            | (refine step_load rfl 37 _ rfl P 0 rfl p2.V _ (B2.out.2.1.range 0 9) Try.underlying37 rfl (infoPr _ _ _ _ _ _ _ _ _) ?_)
            | (refine step_load rfl 28 _ rfl Q 0 rfl (OD kind true file oa ob x ds.length c) _ (B2.out.1.range 0 6) Try.underlying28 rfl (infoOd _ _ _ _ _ _ _ _) ?_))
          refine (WR.out p2 _ ⟨kind, true, file, oa, ob, ds⟩ x c (U9.out.b) (by have := SX.out.2.2.1; omega) OKD.out ⟨by omega, by omega⟩).mono ?_
          rintro e w8 ⟨p', rfl, po⟩
          have A8 : Hid (Blk Q 28 (OD kind true file oa ob x ds.length c) w8 ∧ Blk P 37 p2.V w8 ∧ Blk Q2 37 p2.V w8) := by
            have hv : ∀ g, p2.B g → g < Q := fun g e => by have := PD.lt SX.out.2.2.2.b e; rw [HQ.out] at this; exact this
            exact ⟨B2.out.1.kp po.2.2.1 (fun e => by have := hv _ e; omega), B2.out.2.1.kp po.2.2.1 (fun e => by have := hv _ e; have := B2.out.2.2; omega), U9.out.q2.kp po.2.2.1 SX.out.2.2.2.nb.2⟩
          have PO : Hid (PD.Post w p2 w7 p' w8) := po
          clear po k0 k1
          go_upto_region 29 with (refine step_store rfl 37 _ _ rfl P 0 37 p2.V p'.V rfl rfl A8.out.2.1 (Nat.le_refl _) (infoPr _ _ _ _ _ _ _ _ _) (onePv _ _ _ _ _ _ _ _ _) ?_; intro w9 b9 g9)
          have A9 : Hid (Blk Q 28 (OD kind true file oa ob x ds.length c) w9 ∧ Blk P 37 p'.V w9 ∧ Blk Q2 37 p2.V w9 ∧ w8.grownBy w9 (some P)) := ⟨A8.out.1.grown g9 (by have := B2.out.2.2; omega), b9, A8.out.2.2.grown g9 (by have h9 := SX.out.2.2.2.q2.lt; have h8 := B2.out.2.2; rw [HQ.out] at h9; omega), g9⟩
          clear b9 g9
          have k1 := A9.out.1.cell 1 _ rfl
          go_wp2_with (first
            | (refine step_load rfl 37 _ rfl P 0 rfl p'.V _ (A9.out.2.1.range 0 9) Try.underlying37 rfl (infoPr _ _ _ _ _ _ _ _ _) ?_)
            | (refine step_store rfl 37 _ _ rfl Q2 0 37 p2.V p'.V rfl rfl A9.out.2.2.1 (Nat.le_refl _) (infoPr _ _ _ _ _ _ _ _ _) (onePv _ _ _ _ _ _ _ _ _) ?_; intro w10 b10 g10; have N9 : Hid (U5 w Q1 Q2 p1 p' F l va w10) := (U5.one (M := fun g => some P = some g) SX.out.2.2.2.swap BW.out PO.out (Kp.of_grown A9.out.2.2.2) (fun g hg => by injection hg with hg; have h9 := HQ.out; have h8 := B2.out.2.1.lt; have h7 := B2.out.2.2; omega) b10 g10).swap; clear b10 g10 k1))
          go_roundw
          case rel => exact ⟨i + 1, p1, p', F, l, va, rfl, by go_num, by omega, by have := SX.out.1; omega, by have := SX.out.2.1; have := PO.out.2.2.2; omega, by have := SX.out.2.2.1; have := PO.out.2.2.2; omega, N9.out⟩
          case measure => simp [intOf]; omega
        by_cases h1 : (1 : Int) ≤ kind
        · have e5 : (kind == 5) = false := by simp; omega
          have e6 : (kind == 6) = false := by simp; omega
          have e4 : ¬ kind ≤ 4 := by omega
          go_wp2_with (first
            | (refine step_load rfl 37 _ rfl P 0 rfl p2.V _ (B2.out.2.1.range 0 9) Try.underlying37 rfl (infoPr _ _ _ _ _ _ _ _ _) ?_)
            | (refine step_load rfl 28 _ rfl Q 0 rfl (OD kind true file oa ob x ds.length c) _ (B2.out.1.range 0 6) Try.underlying28 rfl (infoOd _ _ _ _ _ _ _ _) ?_))
          refine (OR.out p2 _ ⟨kind, true, file, oa, ob, ds⟩ x c (U9.out.b) (by have := SX.out.2.2.1; omega) (by show ¬ (1 ≤ kind ∧ kind ≤ 4); omega)).mono ?_
          rintro e w8 ⟨p', rfl, po⟩
          have A8 : Hid (Blk Q 28 (OD kind true file oa ob x ds.length c) w8 ∧ Blk P 37 p2.V w8 ∧ Blk Q2 37 p2.V w8) := by
            have hv : ∀ g, p2.B g → g < Q := fun g e => by have := PD.lt SX.out.2.2.2.b e; rw [HQ.out] at this; exact this
            exact ⟨B2.out.1.kp po.2.2.1 (fun e => by have := hv _ e; omega), B2.out.2.1.kp po.2.2.1 (fun e => by have := hv _ e; have := B2.out.2.2; omega), U9.out.q2.kp po.2.2.1 SX.out.2.2.2.nb.2⟩
          have PO : Hid (PD.Post w p2 w7 p' w8) := po
          clear po k0 k1
          go_upto_region 29 with (refine step_store rfl 37 _ _ rfl P 0 37 p2.V p'.V rfl rfl A8.out.2.1 (Nat.le_refl _) (infoPr _ _ _ _ _ _ _ _ _) (onePv _ _ _ _ _ _ _ _ _) ?_; intro w9 b9 g9)
          have A9 : Hid (Blk Q 28 (OD kind true file oa ob x ds.length c) w9 ∧ Blk P 37 p'.V w9 ∧ Blk Q2 37 p2.V w9 ∧ w8.grownBy w9 (some P)) := ⟨A8.out.1.grown g9 (by have := B2.out.2.2; omega), b9, A8.out.2.2.grown g9 (by have h9 := SX.out.2.2.2.q2.lt; have h8 := B2.out.2.2; rw [HQ.out] at h9; omega), g9⟩
          clear b9 g9
          have k1 := A9.out.1.cell 1 _ rfl
          go_wp2_with (first
            | (refine step_load rfl 37 _ rfl P 0 rfl p'.V _ (A9.out.2.1.range 0 9) Try.underlying37 rfl (infoPr _ _ _ _ _ _ _ _ _) ?_)
            | (refine step_store rfl 37 _ _ rfl Q2 0 37 p2.V p'.V rfl rfl A9.out.2.2.1 (Nat.le_refl _) (infoPr _ _ _ _ _ _ _ _ _) (onePv _ _ _ _ _ _ _ _ _) ?_; intro w10 b10 g10; have N9 : Hid (U5 w Q1 Q2 p1 p' F l va w10) := (U5.one (M := fun g => some P = some g) SX.out.2.2.2.swap BW.out PO.out (Kp.of_grown A9.out.2.2.2) (fun g hg => by injection hg with hg; have h9 := HQ.out; have h8 := B2.out.2.1.lt; have h7 := B2.out.2.2; omega) b10 g10).swap; clear b10 g10 k1))
          go_roundw
          case rel => exact ⟨i + 1, p1, p', F, l, va, rfl, by go_num, by omega, by have := SX.out.1; omega, by have := SX.out.2.1; have := PO.out.2.2.2; omega, by have := SX.out.2.2.1; have := PO.out.2.2.2; omega, N9.out⟩
          case measure => simp [intOf]; omega
        · have e5 : (kind == 5) = false := by simp; omega
          have e6 : (kind == 6) = false := by simp; omega
          go_wp2_with (first
            | (refine step_load rfl 37 _ rfl P 0 rfl p2.V _ (B2.out.2.1.range 0 9) Try.underlying37 rfl (infoPr _ _ _ _ _ _ _ _ _) ?_)
            | (refine step_load rfl 28 _ rfl Q 0 rfl (OD kind true file oa ob x ds.length c) _ (B2.out.1.range 0 6) Try.underlying28 rfl (infoOd _ _ _ _ _ _ _ _) ?_))
          refine (OR.out p2 _ ⟨kind, true, file, oa, ob, ds⟩ x c (U9.out.b) (by have := SX.out.2.2.1; omega) (by show ¬ (1 ≤ kind ∧ kind ≤ 4); omega)).mono ?_
          rintro e w8 ⟨p', rfl, po⟩
          have A8 : Hid (Blk Q 28 (OD kind true file oa ob x ds.length c) w8 ∧ Blk P 37 p2.V w8 ∧ Blk Q2 37 p2.V w8) := by
            have hv : ∀ g, p2.B g → g < Q := fun g e => by have := PD.lt SX.out.2.2.2.b e; rw [HQ.out] at this; exact this
            exact ⟨B2.out.1.kp po.2.2.1 (fun e => by have := hv _ e; omega), B2.out.2.1.kp po.2.2.1 (fun e => by have := hv _ e; have := B2.out.2.2; omega), U9.out.q2.kp po.2.2.1 SX.out.2.2.2.nb.2⟩
          have PO : Hid (PD.Post w p2 w7 p' w8) := po
          clear po k0 k1
          go_upto_region 29 with (refine step_store rfl 37 _ _ rfl P 0 37 p2.V p'.V rfl rfl A8.out.2.1 (Nat.le_refl _) (infoPr _ _ _ _ _ _ _ _ _) (onePv _ _ _ _ _ _ _ _ _) ?_; intro w9 b9 g9)
          have A9 : Hid (Blk Q 28 (OD kind true file oa ob x ds.length c) w9 ∧ Blk P 37 p'.V w9 ∧ Blk Q2 37 p2.V w9 ∧ w8.grownBy w9 (some P)) := ⟨A8.out.1.grown g9 (by have := B2.out.2.2; omega), b9, A8.out.2.2.grown g9 (by have h9 := SX.out.2.2.2.q2.lt; have h8 := B2.out.2.2; rw [HQ.out] at h9; omega), g9⟩
          clear b9 g9
          have k1 := A9.out.1.cell 1 _ rfl
          go_wp2_with (first
            | (refine step_load rfl 37 _ rfl P 0 rfl p'.V _ (A9.out.2.1.range 0 9) Try.underlying37 rfl (infoPr _ _ _ _ _ _ _ _ _) ?_)
            | (refine step_store rfl 37 _ _ rfl Q2 0 37 p2.V p'.V rfl rfl A9.out.2.2.1 (Nat.le_refl _) (infoPr _ _ _ _ _ _ _ _ _) (onePv _ _ _ _ _ _ _ _ _) ?_; intro w10 b10 g10; have N9 : Hid (U5 w Q1 Q2 p1 p' F l va w10) := (U5.one (M := fun g => some P = some g) SX.out.2.2.2.swap BW.out PO.out (Kp.of_grown A9.out.2.2.2) (fun g hg => by injection hg with hg; have h9 := HQ.out; have h8 := B2.out.2.1.lt; have h7 := B2.out.2.2; omega) b10 g10).swap; clear b10 g10 k1))
          go_roundw
          case rel => exact ⟨i + 1, p1, p', F, l, va, rfl, by go_num, by omega, by have := SX.out.1; omega, by have := SX.out.2.1; have := PO.out.2.2.2; omega, by have := SX.out.2.2.1; have := PO.out.2.2.2; omega, N9.out⟩
          case measure => simp [intOf]; omega
    · obtain rfl : i = n := by omega
      have HE : Hid (HeldV F l va wr ∧ l.length ≤ i ∧ Below w.heap.size w wr) := ⟨SX.out.2.2.2.h, SX.out.1, SX.out.2.2.2.bel⟩
      clear SX WR OR LK OPS
      go_wp2_with fail
      refine (HC.out F l va wr HE.out.1 (by have := HE.out.2.1; omega)).mono ?_
      rintro e w9 ⟨rfl, b9⟩
      have B9 : Hid (Below w.heap.size w w9) := below_trans HE.out.2.2 b9
      clear b9 HE HC
      go_wp2_with fail
      go_ret
      exact ⟨rfl, B9.out⟩
end Go.Proofs.Ytiefnomldfhhnaa

namespace Go.Proofs.Ytiefnomldfhhnaa
open Go.RowKit

def fallenL : List OpD := [(⟨1, false, 0, 0, 0, [1, 2, 3]⟩ : OpD), (⟨7, false, 0, 1, 2, []⟩ : OpD), (⟨3, false, 0, 0, 0, []⟩ : OpD), (⟨10, false, 0, 0, 0, []⟩ : OpD), (⟨5, false, 0, 0, 0, []⟩ : OpD), (⟨6, false, 0, 0, 0, []⟩ : OpD), (⟨1, false, 0, 0, 0, [9]⟩ : OpD), (⟨9, false, 0, 0, 0, []⟩ : OpD), (⟨10, false, 0, 0, 0, []⟩ : OpD), (⟨5, false, 0, 0, 0, []⟩ : OpD), (⟨1, false, 0, 0, 0, [4]⟩ : OpD), (⟨4, false, 0, 1, 0, []⟩ : OpD), (⟨3, false, 0, 0, 0, []⟩ : OpD), (⟨6, false, 0, 0, 0, []⟩ : OpD), (⟨5, false, 0, 0, 0, []⟩ : OpD), (⟨9, false, 0, 0, 0, []⟩ : OpD), (⟨11, false, 0, 0, 0, []⟩ : OpD)]
theorem rdBlk (w : World) (G n : Nat) (bs : List Nat) (hn : bs.length = n) (h : Blk G 5 (bs.map bv) w) : RdB w (.slice (some ⟨G, 0, none⟩) n n) bs := by
  subst hn
  refine ⟨_, _, by rw [List.length_map], by rw [List.length_map]; exact Nat.le_refl _, (fun h => by cases h), fun i hi => ⟨G, 0, rfl, h.lt, ?_⟩⟩
  rw [Nat.zero_add]
  exact h.cell i _ (List.getElem?_eq_getElem hi)
set_option maxRecDepth 20000 in
theorem fallen_rd (w : World) : RdO ((((w.alloc (.cells #[.int .u8 1, .int .u8 2, .int .u8 3] 5)).alloc (.cells #[.int .u8 9] 5)).alloc (.cells #[.int .u8 4] 5)).alloc (.cells #[.int .i64 1, .bool false, .int .i64 0, .int .i64 0, .int .i64 0, .slice (some ⟨w.heap.size, 0, none⟩) 3 3, .int .i64 7, .bool false, .int .i64 0, .int .i64 1, .int .i64 2, .slice none 0 0, .int .i64 3, .bool false, .int .i64 0, .int .i64 0, .int .i64 0, .slice none 0 0, .int .i64 10, .bool false, .int .i64 0, .int .i64 0, .int .i64 0, .slice none 0 0, .int .i64 5, .bool false, .int .i64 0, .int .i64 0, .int .i64 0, .slice none 0 0, .int .i64 6, .bool false, .int .i64 0, .int .i64 0, .int .i64 0, .slice none 0 0, .int .i64 1, .bool false, .int .i64 0, .int .i64 0, .int .i64 0, .slice (some ⟨w.heap.size + 1, 0, none⟩) 1 1, .int .i64 9, .bool false, .int .i64 0, .int .i64 0, .int .i64 0, .slice none 0 0, .int .i64 10, .bool false, .int .i64 0, .int .i64 0, .int .i64 0, .slice none 0 0, .int .i64 5, .bool false, .int .i64 0, .int .i64 0, .int .i64 0, .slice none 0 0, .int .i64 1, .bool false, .int .i64 0, .int .i64 0, .int .i64 0, .slice (some ⟨w.heap.size + 1 + 1, 0, none⟩) 1 1, .int .i64 4, .bool false, .int .i64 0, .int .i64 1, .int .i64 0, .slice none 0 0, .int .i64 3, .bool false, .int .i64 0, .int .i64 0, .int .i64 0, .slice none 0 0, .int .i64 6, .bool false, .int .i64 0, .int .i64 0, .int .i64 0, .slice none 0 0, .int .i64 5, .bool false, .int .i64 0, .int .i64 0, .int .i64 0, .slice none 0 0, .int .i64 9, .bool false, .int .i64 0, .int .i64 0, .int .i64 0, .slice none 0 0, .int .i64 11, .bool false, .int .i64 0, .int .i64 0, .int .i64 0, .slice none 0 0] 28)) (.slice (some ⟨w.heap.size + 1 + 1 + 1, 0, none⟩) 17 17) fallenL ∧ Below w.heap.size w ((((w.alloc (.cells #[.int .u8 1, .int .u8 2, .int .u8 3] 5)).alloc (.cells #[.int .u8 9] 5)).alloc (.cells #[.int .u8 4] 5)).alloc (.cells #[.int .i64 1, .bool false, .int .i64 0, .int .i64 0, .int .i64 0, .slice (some ⟨w.heap.size, 0, none⟩) 3 3, .int .i64 7, .bool false, .int .i64 0, .int .i64 1, .int .i64 2, .slice none 0 0, .int .i64 3, .bool false, .int .i64 0, .int .i64 0, .int .i64 0, .slice none 0 0, .int .i64 10, .bool false, .int .i64 0, .int .i64 0, .int .i64 0, .slice none 0 0, .int .i64 5, .bool false, .int .i64 0, .int .i64 0, .int .i64 0, .slice none 0 0, .int .i64 6, .bool false, .int .i64 0, .int .i64 0, .int .i64 0, .slice none 0 0, .int .i64 1, .bool false, .int .i64 0, .int .i64 0, .int .i64 0, .slice (some ⟨w.heap.size + 1, 0, none⟩) 1 1, .int .i64 9, .bool false, .int .i64 0, .int .i64 0, .int .i64 0, .slice none 0 0, .int .i64 10, .bool false, .int .i64 0, .int .i64 0, .int .i64 0, .slice none 0 0, .int .i64 5, .bool false, .int .i64 0, .int .i64 0, .int .i64 0, .slice none 0 0, .int .i64 1, .bool false, .int .i64 0, .int .i64 0, .int .i64 0, .slice (some ⟨w.heap.size + 1 + 1, 0, none⟩) 1 1, .int .i64 4, .bool false, .int .i64 0, .int .i64 1, .int .i64 0, .slice none 0 0, .int .i64 3, .bool false, .int .i64 0, .int .i64 0, .int .i64 0, .slice none 0 0, .int .i64 6, .bool false, .int .i64 0, .int .i64 0, .int .i64 0, .slice none 0 0, .int .i64 5, .bool false, .int .i64 0, .int .i64 0, .int .i64 0, .slice none 0 0, .int .i64 9, .bool false, .int .i64 0, .int .i64 0, .int .i64 0, .slice none 0 0, .int .i64 11, .bool false, .int .i64 0, .int .i64 0, .int .i64 0, .slice none 0 0] 28)) := by
  have b1 := below_alloc w (.cells #[.int .u8 1, .int .u8 2, .int .u8 3] 5)
  have b2 := below_alloc (w.alloc (.cells #[.int .u8 1, .int .u8 2, .int .u8 3] 5)) (.cells #[.int .u8 9] 5)
  have b3 := below_alloc ((w.alloc (.cells #[.int .u8 1, .int .u8 2, .int .u8 3] 5)).alloc (.cells #[.int .u8 9] 5)) (.cells #[.int .u8 4] 5)
  have b4 := below_alloc (((w.alloc (.cells #[.int .u8 1, .int .u8 2, .int .u8 3] 5)).alloc (.cells #[.int .u8 9] 5)).alloc (.cells #[.int .u8 4] 5)) (.cells #[.int .i64 1, .bool false, .int .i64 0, .int .i64 0, .int .i64 0, .slice (some ⟨w.heap.size, 0, none⟩) 3 3, .int .i64 7, .bool false, .int .i64 0, .int .i64 1, .int .i64 2, .slice none 0 0, .int .i64 3, .bool false, .int .i64 0, .int .i64 0, .int .i64 0, .slice none 0 0, .int .i64 10, .bool false, .int .i64 0, .int .i64 0, .int .i64 0, .slice none 0 0, .int .i64 5, .bool false, .int .i64 0, .int .i64 0, .int .i64 0, .slice none 0 0, .int .i64 6, .bool false, .int .i64 0, .int .i64 0, .int .i64 0, .slice none 0 0, .int .i64 1, .bool false, .int .i64 0, .int .i64 0, .int .i64 0, .slice (some ⟨w.heap.size + 1, 0, none⟩) 1 1, .int .i64 9, .bool false, .int .i64 0, .int .i64 0, .int .i64 0, .slice none 0 0, .int .i64 10, .bool false, .int .i64 0, .int .i64 0, .int .i64 0, .slice none 0 0, .int .i64 5, .bool false, .int .i64 0, .int .i64 0, .int .i64 0, .slice none 0 0, .int .i64 1, .bool false, .int .i64 0, .int .i64 0, .int .i64 0, .slice (some ⟨w.heap.size + 1 + 1, 0, none⟩) 1 1, .int .i64 4, .bool false, .int .i64 0, .int .i64 1, .int .i64 0, .slice none 0 0, .int .i64 3, .bool false, .int .i64 0, .int .i64 0, .int .i64 0, .slice none 0 0, .int .i64 6, .bool false, .int .i64 0, .int .i64 0, .int .i64 0, .slice none 0 0, .int .i64 5, .bool false, .int .i64 0, .int .i64 0, .int .i64 0, .slice none 0 0, .int .i64 9, .bool false, .int .i64 0, .int .i64 0, .int .i64 0, .slice none 0 0, .int .i64 11, .bool false, .int .i64 0, .int .i64 0, .int .i64 0, .slice none 0 0] 28)
  have z1 : (w.alloc (.cells #[.int .u8 1, .int .u8 2, .int .u8 3] 5)).heap.size = w.heap.size + 1 := by simp
  have z2 : ((w.alloc (.cells #[.int .u8 1, .int .u8 2, .int .u8 3] 5)).alloc (.cells #[.int .u8 9] 5)).heap.size = w.heap.size + 1 + 1 := by simp
  have z3 : (((w.alloc (.cells #[.int .u8 1, .int .u8 2, .int .u8 3] 5)).alloc (.cells #[.int .u8 9] 5)).alloc (.cells #[.int .u8 4] 5)).heap.size = w.heap.size + 1 + 1 + 1 := by simp
  have h1 : Blk w.heap.size 5 ([1, 2, 3].map bv) (w.alloc (.cells #[.int .u8 1, .int .u8 2, .int .u8 3] 5)) := Blk.new 5 ([1, 2, 3].map bv) w
  have h2 : Blk (w.heap.size + 1) 5 ([9].map bv) ((w.alloc (.cells #[.int .u8 1, .int .u8 2, .int .u8 3] 5)).alloc (.cells #[.int .u8 9] 5)) := by rw [← z1]; exact Blk.new 5 ([9].map bv) (w.alloc (.cells #[.int .u8 1, .int .u8 2, .int .u8 3] 5))
  have h3 : Blk (w.heap.size + 1 + 1) 5 ([4].map bv) (((w.alloc (.cells #[.int .u8 1, .int .u8 2, .int .u8 3] 5)).alloc (.cells #[.int .u8 9] 5)).alloc (.cells #[.int .u8 4] 5)) := by rw [← z2]; exact Blk.new 5 ([4].map bv) ((w.alloc (.cells #[.int .u8 1, .int .u8 2, .int .u8 3] 5)).alloc (.cells #[.int .u8 9] 5))
  have hB : Blk (w.heap.size + 1 + 1 + 1) 28 [.int .i64 1, .bool false, .int .i64 0, .int .i64 0, .int .i64 0, .slice (some ⟨w.heap.size, 0, none⟩) 3 3, .int .i64 7, .bool false, .int .i64 0, .int .i64 1, .int .i64 2, .slice none 0 0, .int .i64 3, .bool false, .int .i64 0, .int .i64 0, .int .i64 0, .slice none 0 0, .int .i64 10, .bool false, .int .i64 0, .int .i64 0, .int .i64 0, .slice none 0 0, .int .i64 5, .bool false, .int .i64 0, .int .i64 0, .int .i64 0, .slice none 0 0, .int .i64 6, .bool false, .int .i64 0, .int .i64 0, .int .i64 0, .slice none 0 0, .int .i64 1, .bool false, .int .i64 0, .int .i64 0, .int .i64 0, .slice (some ⟨w.heap.size + 1, 0, none⟩) 1 1, .int .i64 9, .bool false, .int .i64 0, .int .i64 0, .int .i64 0, .slice none 0 0, .int .i64 10, .bool false, .int .i64 0, .int .i64 0, .int .i64 0, .slice none 0 0, .int .i64 5, .bool false, .int .i64 0, .int .i64 0, .int .i64 0, .slice none 0 0, .int .i64 1, .bool false, .int .i64 0, .int .i64 0, .int .i64 0, .slice (some ⟨w.heap.size + 1 + 1, 0, none⟩) 1 1, .int .i64 4, .bool false, .int .i64 0, .int .i64 1, .int .i64 0, .slice none 0 0, .int .i64 3, .bool false, .int .i64 0, .int .i64 0, .int .i64 0, .slice none 0 0, .int .i64 6, .bool false, .int .i64 0, .int .i64 0, .int .i64 0, .slice none 0 0, .int .i64 5, .bool false, .int .i64 0, .int .i64 0, .int .i64 0, .slice none 0 0, .int .i64 9, .bool false, .int .i64 0, .int .i64 0, .int .i64 0, .slice none 0 0, .int .i64 11, .bool false, .int .i64 0, .int .i64 0, .int .i64 0, .slice none 0 0] ((((w.alloc (.cells #[.int .u8 1, .int .u8 2, .int .u8 3] 5)).alloc (.cells #[.int .u8 9] 5)).alloc (.cells #[.int .u8 4] 5)).alloc (.cells #[.int .i64 1, .bool false, .int .i64 0, .int .i64 0, .int .i64 0, .slice (some ⟨w.heap.size, 0, none⟩) 3 3, .int .i64 7, .bool false, .int .i64 0, .int .i64 1, .int .i64 2, .slice none 0 0, .int .i64 3, .bool false, .int .i64 0, .int .i64 0, .int .i64 0, .slice none 0 0, .int .i64 10, .bool false, .int .i64 0, .int .i64 0, .int .i64 0, .slice none 0 0, .int .i64 5, .bool false, .int .i64 0, .int .i64 0, .int .i64 0, .slice none 0 0, .int .i64 6, .bool false, .int .i64 0, .int .i64 0, .int .i64 0, .slice none 0 0, .int .i64 1, .bool false, .int .i64 0, .int .i64 0, .int .i64 0, .slice (some ⟨w.heap.size + 1, 0, none⟩) 1 1, .int .i64 9, .bool false, .int .i64 0, .int .i64 0, .int .i64 0, .slice none 0 0, .int .i64 10, .bool false, .int .i64 0, .int .i64 0, .int .i64 0, .slice none 0 0, .int .i64 5, .bool false, .int .i64 0, .int .i64 0, .int .i64 0, .slice none 0 0, .int .i64 1, .bool false, .int .i64 0, .int .i64 0, .int .i64 0, .slice (some ⟨w.heap.size + 1 + 1, 0, none⟩) 1 1, .int .i64 4, .bool false, .int .i64 0, .int .i64 1, .int .i64 0, .slice none 0 0, .int .i64 3, .bool false, .int .i64 0, .int .i64 0, .int .i64 0, .slice none 0 0, .int .i64 6, .bool false, .int .i64 0, .int .i64 0, .int .i64 0, .slice none 0 0, .int .i64 5, .bool false, .int .i64 0, .int .i64 0, .int .i64 0, .slice none 0 0, .int .i64 9, .bool false, .int .i64 0, .int .i64 0, .int .i64 0, .slice none 0 0, .int .i64 11, .bool false, .int .i64 0, .int .i64 0, .int .i64 0, .slice none 0 0] 28)) := by rw [← z3]; exact Blk.new 28 [.int .i64 1, .bool false, .int .i64 0, .int .i64 0, .int .i64 0, .slice (some ⟨w.heap.size, 0, none⟩) 3 3, .int .i64 7, .bool false, .int .i64 0, .int .i64 1, .int .i64 2, .slice none 0 0, .int .i64 3, .bool false, .int .i64 0, .int .i64 0, .int .i64 0, .slice none 0 0, .int .i64 10, .bool false, .int .i64 0, .int .i64 0, .int .i64 0, .slice none 0 0, .int .i64 5, .bool false, .int .i64 0, .int .i64 0, .int .i64 0, .slice none 0 0, .int .i64 6, .bool false, .int .i64 0, .int .i64 0, .int .i64 0, .slice none 0 0, .int .i64 1, .bool false, .int .i64 0, .int .i64 0, .int .i64 0, .slice (some ⟨w.heap.size + 1, 0, none⟩) 1 1, .int .i64 9, .bool false, .int .i64 0, .int .i64 0, .int .i64 0, .slice none 0 0, .int .i64 10, .bool false, .int .i64 0, .int .i64 0, .int .i64 0, .slice none 0 0, .int .i64 5, .bool false, .int .i64 0, .int .i64 0, .int .i64 0, .slice none 0 0, .int .i64 1, .bool false, .int .i64 0, .int .i64 0, .int .i64 0, .slice (some ⟨w.heap.size + 1 + 1, 0, none⟩) 1 1, .int .i64 4, .bool false, .int .i64 0, .int .i64 1, .int .i64 0, .slice none 0 0, .int .i64 3, .bool false, .int .i64 0, .int .i64 0, .int .i64 0, .slice none 0 0, .int .i64 6, .bool false, .int .i64 0, .int .i64 0, .int .i64 0, .slice none 0 0, .int .i64 5, .bool false, .int .i64 0, .int .i64 0, .int .i64 0, .slice none 0 0, .int .i64 9, .bool false, .int .i64 0, .int .i64 0, .int .i64 0, .slice none 0 0, .int .i64 11, .bool false, .int .i64 0, .int .i64 0, .int .i64 0, .slice none 0 0] (((w.alloc (.cells #[.int .u8 1, .int .u8 2, .int .u8 3] 5)).alloc (.cells #[.int .u8 9] 5)).alloc (.cells #[.int .u8 4] 5))
  have k1 := ((h1.below b2).below b3).below b4
  have k2 := (h2.below b3).below b4
  have k3 := h3.below b4
  have bb := below_trans (below_trans (below_trans b1 b2) b3) b4
  generalize ((((w.alloc (.cells #[.int .u8 1, .int .u8 2, .int .u8 3] 5)).alloc (.cells #[.int .u8 9] 5)).alloc (.cells #[.int .u8 4] 5)).alloc (.cells #[.int .i64 1, .bool false, .int .i64 0, .int .i64 0, .int .i64 0, .slice (some ⟨w.heap.size, 0, none⟩) 3 3, .int .i64 7, .bool false, .int .i64 0, .int .i64 1, .int .i64 2, .slice none 0 0, .int .i64 3, .bool false, .int .i64 0, .int .i64 0, .int .i64 0, .slice none 0 0, .int .i64 10, .bool false, .int .i64 0, .int .i64 0, .int .i64 0, .slice none 0 0, .int .i64 5, .bool false, .int .i64 0, .int .i64 0, .int .i64 0, .slice none 0 0, .int .i64 6, .bool false, .int .i64 0, .int .i64 0, .int .i64 0, .slice none 0 0, .int .i64 1, .bool false, .int .i64 0, .int .i64 0, .int .i64 0, .slice (some ⟨w.heap.size + 1, 0, none⟩) 1 1, .int .i64 9, .bool false, .int .i64 0, .int .i64 0, .int .i64 0, .slice none 0 0, .int .i64 10, .bool false, .int .i64 0, .int .i64 0, .int .i64 0, .slice none 0 0, .int .i64 5, .bool false, .int .i64 0, .int .i64 0, .int .i64 0, .slice none 0 0, .int .i64 1, .bool false, .int .i64 0, .int .i64 0, .int .i64 0, .slice (some ⟨w.heap.size + 1 + 1, 0, none⟩) 1 1, .int .i64 4, .bool false, .int .i64 0, .int .i64 1, .int .i64 0, .slice none 0 0, .int .i64 3, .bool false, .int .i64 0, .int .i64 0, .int .i64 0, .slice none 0 0, .int .i64 6, .bool false, .int .i64 0, .int .i64 0, .int .i64 0, .slice none 0 0, .int .i64 5, .bool false, .int .i64 0, .int .i64 0, .int .i64 0, .slice none 0 0, .int .i64 9, .bool false, .int .i64 0, .int .i64 0, .int .i64 0, .slice none 0 0, .int .i64 11, .bool false, .int .i64 0, .int .i64 0, .int .i64 0, .slice none 0 0] 28)) = w4 at *
  have r1 := rdBlk w4 w.heap.size 3 [1, 2, 3] rfl k1
  have r2 := rdBlk w4 (w.heap.size + 1) 1 [9] rfl k2
  have r3 := rdBlk w4 (w.heap.size + 1 + 1) 1 [4] rfl k3
  have r0 : RdB w4 (.slice none 0 0) [] := (RowV.nil 5 0 w4).rd
  refine ⟨⟨some ⟨w.heap.size + 1 + 1 + 1, 0, none⟩, 17, rfl, fun i o hi => ?_⟩, bb⟩
  have hl : i < 17 := (List.getElem?_eq_some_iff.1 hi).1
  have hc : i = 0 ∨ i = 1 ∨ i = 2 ∨ i = 3 ∨ i = 4 ∨ i = 5 ∨ i = 6 ∨ i = 7 ∨ i = 8 ∨ i = 9 ∨ i = 10 ∨ i = 11 ∨ i = 12 ∨ i = 13 ∨ i = 14 ∨ i = 15 ∨ i = 16 := by omega
  rcases hc with rfl | rfl | rfl | rfl | rfl | rfl | rfl | rfl | rfl | rfl | rfl | rfl | rfl | rfl | rfl | rfl | rfl
  · obtain rfl : (⟨1, false, 0, 0, 0, [1, 2, 3]⟩ : OpD) = o := by simpa [fallenL] using hi
    exact ⟨w.heap.size + 1 + 1 + 1, 0, (some ⟨w.heap.size, 0, none⟩), 3, rfl, hB.lt, hB.cell 0 _ rfl, hB.cell 1 _ rfl, hB.cell 2 _ rfl, hB.cell 3 _ rfl, hB.cell 4 _ rfl, hB.cell 5 _ rfl, r1⟩
  · obtain rfl : (⟨7, false, 0, 1, 2, []⟩ : OpD) = o := by simpa [fallenL] using hi
    exact ⟨w.heap.size + 1 + 1 + 1, 0, none, 0, rfl, hB.lt, hB.cell 6 _ rfl, hB.cell 7 _ rfl, hB.cell 8 _ rfl, hB.cell 9 _ rfl, hB.cell 10 _ rfl, hB.cell 11 _ rfl, r0⟩
  · obtain rfl : (⟨3, false, 0, 0, 0, []⟩ : OpD) = o := by simpa [fallenL] using hi
    exact ⟨w.heap.size + 1 + 1 + 1, 0, none, 0, rfl, hB.lt, hB.cell 12 _ rfl, hB.cell 13 _ rfl, hB.cell 14 _ rfl, hB.cell 15 _ rfl, hB.cell 16 _ rfl, hB.cell 17 _ rfl, r0⟩
  · obtain rfl : (⟨10, false, 0, 0, 0, []⟩ : OpD) = o := by simpa [fallenL] using hi
    exact ⟨w.heap.size + 1 + 1 + 1, 0, none, 0, rfl, hB.lt, hB.cell 18 _ rfl, hB.cell 19 _ rfl, hB.cell 20 _ rfl, hB.cell 21 _ rfl, hB.cell 22 _ rfl, hB.cell 23 _ rfl, r0⟩
  · obtain rfl : (⟨5, false, 0, 0, 0, []⟩ : OpD) = o := by simpa [fallenL] using hi
    exact ⟨w.heap.size + 1 + 1 + 1, 0, none, 0, rfl, hB.lt, hB.cell 24 _ rfl, hB.cell 25 _ rfl, hB.cell 26 _ rfl, hB.cell 27 _ rfl, hB.cell 28 _ rfl, hB.cell 29 _ rfl, r0⟩
  · obtain rfl : (⟨6, false, 0, 0, 0, []⟩ : OpD) = o := by simpa [fallenL] using hi
    exact ⟨w.heap.size + 1 + 1 + 1, 0, none, 0, rfl, hB.lt, hB.cell 30 _ rfl, hB.cell 31 _ rfl, hB.cell 32 _ rfl, hB.cell 33 _ rfl, hB.cell 34 _ rfl, hB.cell 35 _ rfl, r0⟩
  · obtain rfl : (⟨1, false, 0, 0, 0, [9]⟩ : OpD) = o := by simpa [fallenL] using hi
    exact ⟨w.heap.size + 1 + 1 + 1, 0, (some ⟨w.heap.size + 1, 0, none⟩), 1, rfl, hB.lt, hB.cell 36 _ rfl, hB.cell 37 _ rfl, hB.cell 38 _ rfl, hB.cell 39 _ rfl, hB.cell 40 _ rfl, hB.cell 41 _ rfl, r2⟩
  · obtain rfl : (⟨9, false, 0, 0, 0, []⟩ : OpD) = o := by simpa [fallenL] using hi
    exact ⟨w.heap.size + 1 + 1 + 1, 0, none, 0, rfl, hB.lt, hB.cell 42 _ rfl, hB.cell 43 _ rfl, hB.cell 44 _ rfl, hB.cell 45 _ rfl, hB.cell 46 _ rfl, hB.cell 47 _ rfl, r0⟩
  · obtain rfl : (⟨10, false, 0, 0, 0, []⟩ : OpD) = o := by simpa [fallenL] using hi
    exact ⟨w.heap.size + 1 + 1 + 1, 0, none, 0, rfl, hB.lt, hB.cell 48 _ rfl, hB.cell 49 _ rfl, hB.cell 50 _ rfl, hB.cell 51 _ rfl, hB.cell 52 _ rfl, hB.cell 53 _ rfl, r0⟩
  · obtain rfl : (⟨5, false, 0, 0, 0, []⟩ : OpD) = o := by simpa [fallenL] using hi
    exact ⟨w.heap.size + 1 + 1 + 1, 0, none, 0, rfl, hB.lt, hB.cell 54 _ rfl, hB.cell 55 _ rfl, hB.cell 56 _ rfl, hB.cell 57 _ rfl, hB.cell 58 _ rfl, hB.cell 59 _ rfl, r0⟩
  · obtain rfl : (⟨1, false, 0, 0, 0, [4]⟩ : OpD) = o := by simpa [fallenL] using hi
    exact ⟨w.heap.size + 1 + 1 + 1, 0, (some ⟨w.heap.size + 1 + 1, 0, none⟩), 1, rfl, hB.lt, hB.cell 60 _ rfl, hB.cell 61 _ rfl, hB.cell 62 _ rfl, hB.cell 63 _ rfl, hB.cell 64 _ rfl, hB.cell 65 _ rfl, r3⟩
  · obtain rfl : (⟨4, false, 0, 1, 0, []⟩ : OpD) = o := by simpa [fallenL] using hi
    exact ⟨w.heap.size + 1 + 1 + 1, 0, none, 0, rfl, hB.lt, hB.cell 66 _ rfl, hB.cell 67 _ rfl, hB.cell 68 _ rfl, hB.cell 69 _ rfl, hB.cell 70 _ rfl, hB.cell 71 _ rfl, r0⟩
  · obtain rfl : (⟨3, false, 0, 0, 0, []⟩ : OpD) = o := by simpa [fallenL] using hi
    exact ⟨w.heap.size + 1 + 1 + 1, 0, none, 0, rfl, hB.lt, hB.cell 72 _ rfl, hB.cell 73 _ rfl, hB.cell 74 _ rfl, hB.cell 75 _ rfl, hB.cell 76 _ rfl, hB.cell 77 _ rfl, r0⟩
  · obtain rfl : (⟨6, false, 0, 0, 0, []⟩ : OpD) = o := by simpa [fallenL] using hi
    exact ⟨w.heap.size + 1 + 1 + 1, 0, none, 0, rfl, hB.lt, hB.cell 78 _ rfl, hB.cell 79 _ rfl, hB.cell 80 _ rfl, hB.cell 81 _ rfl, hB.cell 82 _ rfl, hB.cell 83 _ rfl, r0⟩
  · obtain rfl : (⟨5, false, 0, 0, 0, []⟩ : OpD) = o := by simpa [fallenL] using hi
    exact ⟨w.heap.size + 1 + 1 + 1, 0, none, 0, rfl, hB.lt, hB.cell 84 _ rfl, hB.cell 85 _ rfl, hB.cell 86 _ rfl, hB.cell 87 _ rfl, hB.cell 88 _ rfl, hB.cell 89 _ rfl, r0⟩
  · obtain rfl : (⟨9, false, 0, 0, 0, []⟩ : OpD) = o := by simpa [fallenL] using hi
    exact ⟨w.heap.size + 1 + 1 + 1, 0, none, 0, rfl, hB.lt, hB.cell 90 _ rfl, hB.cell 91 _ rfl, hB.cell 92 _ rfl, hB.cell 93 _ rfl, hB.cell 94 _ rfl, hB.cell 95 _ rfl, r0⟩
  · obtain rfl : (⟨11, false, 0, 0, 0, []⟩ : OpD) = o := by simpa [fallenL] using hi
    exact ⟨w.heap.size + 1 + 1 + 1, 0, none, 0, rfl, hB.lt, hB.cell 96 _ rfl, hB.cell 97 _ rfl, hB.cell 98 _ rfl, hB.cell 99 _ rfl, hB.cell 100 _ rfl, hB.cell 101 _ rfl, r0⟩
theorem fallen_ok : ∀ o ∈ fallenL, o.data.length ≤ 1048576 := by
  intro o ho
  simp [fallenL] at ho
  rcases ho with rfl | rfl | rfl | rfl | rfl | rfl | rfl | rfl | rfl | rfl | rfl | rfl | rfl | rfl | rfl | rfl | rfl <;> simp
set_option maxRecDepth 20000 in
set_option maxHeartbeats 2000000 in
theorem fallen_at (w : World) : Calls Try.prog 9 #[] w fun e w' => ∃ v, e = .returned v ∧ RdO w' v fallenL ∧ Below w.heap.size w w' := by
  have F0 : Hid (RdO ((((w.alloc (.cells #[.int .u8 1, .int .u8 2, .int .u8 3] 5)).alloc (.cells #[.int .u8 9] 5)).alloc (.cells #[.int .u8 4] 5)).alloc (.cells #[.int .i64 1, .bool false, .int .i64 0, .int .i64 0, .int .i64 0, .slice (some ⟨w.heap.size, 0, none⟩) 3 3, .int .i64 7, .bool false, .int .i64 0, .int .i64 1, .int .i64 2, .slice none 0 0, .int .i64 3, .bool false, .int .i64 0, .int .i64 0, .int .i64 0, .slice none 0 0, .int .i64 10, .bool false, .int .i64 0, .int .i64 0, .int .i64 0, .slice none 0 0, .int .i64 5, .bool false, .int .i64 0, .int .i64 0, .int .i64 0, .slice none 0 0, .int .i64 6, .bool false, .int .i64 0, .int .i64 0, .int .i64 0, .slice none 0 0, .int .i64 1, .bool false, .int .i64 0, .int .i64 0, .int .i64 0, .slice (some ⟨w.heap.size + 1, 0, none⟩) 1 1, .int .i64 9, .bool false, .int .i64 0, .int .i64 0, .int .i64 0, .slice none 0 0, .int .i64 10, .bool false, .int .i64 0, .int .i64 0, .int .i64 0, .slice none 0 0, .int .i64 5, .bool false, .int .i64 0, .int .i64 0, .int .i64 0, .slice none 0 0, .int .i64 1, .bool false, .int .i64 0, .int .i64 0, .int .i64 0, .slice (some ⟨w.heap.size + 1 + 1, 0, none⟩) 1 1, .int .i64 4, .bool false, .int .i64 0, .int .i64 1, .int .i64 0, .slice none 0 0, .int .i64 3, .bool false, .int .i64 0, .int .i64 0, .int .i64 0, .slice none 0 0, .int .i64 6, .bool false, .int .i64 0, .int .i64 0, .int .i64 0, .slice none 0 0, .int .i64 5, .bool false, .int .i64 0, .int .i64 0, .int .i64 0, .slice none 0 0, .int .i64 9, .bool false, .int .i64 0, .int .i64 0, .int .i64 0, .slice none 0 0, .int .i64 11, .bool false, .int .i64 0, .int .i64 0, .int .i64 0, .slice none 0 0] 28)) (.slice (some ⟨w.heap.size + 1 + 1 + 1, 0, none⟩) 17 17) fallenL ∧ Below w.heap.size w ((((w.alloc (.cells #[.int .u8 1, .int .u8 2, .int .u8 3] 5)).alloc (.cells #[.int .u8 9] 5)).alloc (.cells #[.int .u8 4] 5)).alloc (.cells #[.int .i64 1, .bool false, .int .i64 0, .int .i64 0, .int .i64 0, .slice (some ⟨w.heap.size, 0, none⟩) 3 3, .int .i64 7, .bool false, .int .i64 0, .int .i64 1, .int .i64 2, .slice none 0 0, .int .i64 3, .bool false, .int .i64 0, .int .i64 0, .int .i64 0, .slice none 0 0, .int .i64 10, .bool false, .int .i64 0, .int .i64 0, .int .i64 0, .slice none 0 0, .int .i64 5, .bool false, .int .i64 0, .int .i64 0, .int .i64 0, .slice none 0 0, .int .i64 6, .bool false, .int .i64 0, .int .i64 0, .int .i64 0, .slice none 0 0, .int .i64 1, .bool false, .int .i64 0, .int .i64 0, .int .i64 0, .slice (some ⟨w.heap.size + 1, 0, none⟩) 1 1, .int .i64 9, .bool false, .int .i64 0, .int .i64 0, .int .i64 0, .slice none 0 0, .int .i64 10, .bool false, .int .i64 0, .int .i64 0, .int .i64 0, .slice none 0 0, .int .i64 5, .bool false, .int .i64 0, .int .i64 0, .int .i64 0, .slice none 0 0, .int .i64 1, .bool false, .int .i64 0, .int .i64 0, .int .i64 0, .slice (some ⟨w.heap.size + 1 + 1, 0, none⟩) 1 1, .int .i64 4, .bool false, .int .i64 0, .int .i64 1, .int .i64 0, .slice none 0 0, .int .i64 3, .bool false, .int .i64 0, .int .i64 0, .int .i64 0, .slice none 0 0, .int .i64 6, .bool false, .int .i64 0, .int .i64 0, .int .i64 0, .slice none 0 0, .int .i64 5, .bool false, .int .i64 0, .int .i64 0, .int .i64 0, .slice none 0 0, .int .i64 9, .bool false, .int .i64 0, .int .i64 0, .int .i64 0, .slice none 0 0, .int .i64 11, .bool false, .int .i64 0, .int .i64 0, .int .i64 0, .slice none 0 0] 28))) := fallen_rd w
  go_enter Try.func9, Try.ntmps9
  go_wp2_with fail
  go_ret
  exact ⟨_, rfl, F0.out⟩

set_option maxRecDepth 20000 in
set_option maxHeartbeats 2000000 in
theorem appends_any (fs ss : List Nat) (os : List OpD) (vf vs vo : Value) (w : World) (hf : fs.length ≤ 1048576) (hs : ss.length ≤ 1048576) (hl : ∀ o ∈ os, o.data.length ≤ 1048576) (hn : os.length ≤ 1048576) (h1 : RdB w vf fs) (h2 : RdB w vs ss) (h3 : ∀ w', Below w.heap.size w w' → RdO w' vo os) :
    Calls Try.prog 3 #[vf, vs, vo] w fun e w' => e = .returned (.bool true) ∧ Below w.heap.size w w' := by
  have FA : Hid (∀ w', Calls Try.prog 9 #[] w' fun e w2 => ∃ v, e = .returned v ∧ RdO w2 v fallenL ∧ Below w'.heap.size w' w2) := fun w' => fallen_at w'
  have UF : Hid (∀ w' v, RdO w' v fallenL → Calls Try.prog 8 #[.slice none 0 0, .slice none 0 0, v, .int .i64 1, .int .i64 2] w' fun e w2 => e = .returned (.bool true) ∧ Below w'.heap.size w' w2) := fun w' v h => upTo_at [] [] fallenL _ _ v 1 2 w' (by simp) (by simp) fallen_ok (by show 17 ≤ _; omega) (RowV.nil 5 0 _).rd (RowV.nil 5 0 _).rd h
  have UG : Hid (∀ w', Below w.heap.size w w' → Calls Try.prog 8 #[vf, vs, vo, .int .i64 1, .int .i64 2] w' fun e w2 => e = .returned (.bool true) ∧ Below w'.heap.size w' w2) := fun w' b => upTo_at fs ss os vf vs vo 1 2 w' hf hs hl (by omega) (Rd.later h1 b) (Rd.later h2 b) (h3 w' b)
  clear hf hs hl hn h1 h2 h3
  go_enter Try.func3, Try.ntmps3
  go_wp2_with fail
  refine (FA.out _).mono ?_
  rintro e w1 ⟨v, rfl, r1, b1⟩
  have S1 : Hid (RdO w1 v fallenL ∧ Below w.heap.size w w1) := ⟨r1, b1⟩
  clear r1 b1 FA
  go_wp2_with fail
  refine (UF.out _ _ S1.out.1).mono ?_
  rintro e w2 ⟨rfl, b2⟩
  have S2 : Hid (Below w.heap.size w w2) := below_trans S1.out.2 b2
  clear b2 S1 UF
  go_wp2_with fail
  refine (UG.out _ S2.out).mono ?_
  rintro e w3 ⟨rfl, b3⟩
  have S3 : Hid (Below w.heap.size w w3) := below_trans S2.out b3
  clear b3 S2 UG
  go_wp2_with fail
  go_ret
  exact ⟨rfl, S3.out⟩

set_option maxRecDepth 20000 in
set_option maxHeartbeats 2000000 in
theorem truncates_any (fs ss : List Nat) (os : List OpD) (vf vs vo : Value) (w : World) (hf : fs.length ≤ 1048576) (hs : ss.length ≤ 1048576) (hl : ∀ o ∈ os, o.data.length ≤ 1048576) (hn : os.length ≤ 1048576) (h1 : RdB w vf fs) (h2 : RdB w vs ss) (h3 : ∀ w', Below w.heap.size w w' → RdO w' vo os) :
    Calls Try.prog 4 #[vf, vs, vo] w fun e w' => e = .returned (.bool true) ∧ Below w.heap.size w w' := by
  have FA : Hid (∀ w', Calls Try.prog 9 #[] w' fun e w2 => ∃ v, e = .returned v ∧ RdO w2 v fallenL ∧ Below w'.heap.size w' w2) := fun w' => fallen_at w'
  have UF : Hid (∀ w' v, RdO w' v fallenL → Calls Try.prog 8 #[.slice none 0 0, .slice none 0 0, v, .int .i64 4, .int .i64 4] w' fun e w2 => e = .returned (.bool true) ∧ Below w'.heap.size w' w2) := fun w' v h => upTo_at [] [] fallenL _ _ v 4 4 w' (by simp) (by simp) fallen_ok (by show 17 ≤ _; omega) (RowV.nil 5 0 _).rd (RowV.nil 5 0 _).rd h
  have UG : Hid (∀ w', Below w.heap.size w w' → Calls Try.prog 8 #[vf, vs, vo, .int .i64 4, .int .i64 4] w' fun e w2 => e = .returned (.bool true) ∧ Below w'.heap.size w' w2) := fun w' b => upTo_at fs ss os vf vs vo 4 4 w' hf hs hl (by omega) (Rd.later h1 b) (Rd.later h2 b) (h3 w' b)
  clear hf hs hl hn h1 h2 h3
  go_enter Try.func4, Try.ntmps4
  go_wp2_with fail
  refine (FA.out _).mono ?_
  rintro e w1 ⟨v, rfl, r1, b1⟩
  have S1 : Hid (RdO w1 v fallenL ∧ Below w.heap.size w w1) := ⟨r1, b1⟩
  clear r1 b1 FA
  go_wp2_with fail
  refine (UF.out _ _ S1.out.1).mono ?_
  rintro e w2 ⟨rfl, b2⟩
  have S2 : Hid (Below w.heap.size w w2) := below_trans S1.out.2 b2
  clear b2 S1 UF
  go_wp2_with fail
  refine (UG.out _ S2.out).mono ?_
  rintro e w3 ⟨rfl, b3⟩
  have S3 : Hid (Below w.heap.size w w3) := below_trans S2.out b3
  clear b3 S2 UG
  go_wp2_with fail
  go_ret
  exact ⟨rfl, S3.out⟩

set_option maxRecDepth 20000 in
set_option maxHeartbeats 2000000 in
theorem reads_any (fs ss : List Nat) (os : List OpD) (vf vs vo : Value) (w : World) (hf : fs.length ≤ 1048576) (hs : ss.length ≤ 1048576) (hl : ∀ o ∈ os, o.data.length ≤ 1048576) (hn : os.length ≤ 1048576) (h1 : RdB w vf fs) (h2 : RdB w vs ss) (h3 : ∀ w', Below w.heap.size w w' → RdO w' vo os) :
    Calls Try.prog 5 #[vf, vs, vo] w fun e w' => e = .returned (.bool true) ∧ Below w.heap.size w w' := by
  have FA : Hid (∀ w', Calls Try.prog 9 #[] w' fun e w2 => ∃ v, e = .returned v ∧ RdO w2 v fallenL ∧ Below w'.heap.size w' w2) := fun w' => fallen_at w'
  have UF : Hid (∀ w' v, RdO w' v fallenL → Calls Try.prog 8 #[.slice none 0 0, .slice none 0 0, v, .int .i64 5, .int .i64 5] w' fun e w2 => e = .returned (.bool true) ∧ Below w'.heap.size w' w2) := fun w' v h => upTo_at [] [] fallenL _ _ v 5 5 w' (by simp) (by simp) fallen_ok (by show 17 ≤ _; omega) (RowV.nil 5 0 _).rd (RowV.nil 5 0 _).rd h
  have UG : Hid (∀ w', Below w.heap.size w w' → Calls Try.prog 8 #[vf, vs, vo, .int .i64 5, .int .i64 5] w' fun e w2 => e = .returned (.bool true) ∧ Below w'.heap.size w' w2) := fun w' b => upTo_at fs ss os vf vs vo 5 5 w' hf hs hl (by omega) (Rd.later h1 b) (Rd.later h2 b) (h3 w' b)
  clear hf hs hl hn h1 h2 h3
  go_enter Try.func5, Try.ntmps5
  go_wp2_with fail
  refine (FA.out _).mono ?_
  rintro e w1 ⟨v, rfl, r1, b1⟩
  have S1 : Hid (RdO w1 v fallenL ∧ Below w.heap.size w w1) := ⟨r1, b1⟩
  clear r1 b1 FA
  go_wp2_with fail
  refine (UF.out _ _ S1.out.1).mono ?_
  rintro e w2 ⟨rfl, b2⟩
  have S2 : Hid (Below w.heap.size w w2) := below_trans S1.out.2 b2
  clear b2 S1 UF
  go_wp2_with fail
  refine (UG.out _ S2.out).mono ?_
  rintro e w3 ⟨rfl, b3⟩
  have S3 : Hid (Below w.heap.size w w3) := below_trans S2.out b3
  clear b3 S2 UG
  go_wp2_with fail
  go_ret
  exact ⟨rfl, S3.out⟩

set_option maxRecDepth 20000 in
set_option maxHeartbeats 2000000 in
theorem durables_any (fs ss : List Nat) (os : List OpD) (vf vs vo : Value) (w : World) (hf : fs.length ≤ 1048576) (hs : ss.length ≤ 1048576) (hl : ∀ o ∈ os, o.data.length ≤ 1048576) (hn : os.length ≤ 1048576) (h1 : RdB w vf fs) (h2 : RdB w vs ss) (h3 : ∀ w', Below w.heap.size w w' → RdO w' vo os) :
    Calls Try.prog 6 #[vf, vs, vo] w fun e w' => e = .returned (.bool true) ∧ Below w.heap.size w w' := by
  have FA : Hid (∀ w', Calls Try.prog 9 #[] w' fun e w2 => ∃ v, e = .returned v ∧ RdO w2 v fallenL ∧ Below w'.heap.size w' w2) := fun w' => fallen_at w'
  have UF : Hid (∀ w' v, RdO w' v fallenL → Calls Try.prog 8 #[.slice none 0 0, .slice none 0 0, v, .int .i64 6, .int .i64 6] w' fun e w2 => e = .returned (.bool true) ∧ Below w'.heap.size w' w2) := fun w' v h => upTo_at [] [] fallenL _ _ v 6 6 w' (by simp) (by simp) fallen_ok (by show 17 ≤ _; omega) (RowV.nil 5 0 _).rd (RowV.nil 5 0 _).rd h
  have UG : Hid (∀ w', Below w.heap.size w w' → Calls Try.prog 8 #[vf, vs, vo, .int .i64 6, .int .i64 6] w' fun e w2 => e = .returned (.bool true) ∧ Below w'.heap.size w' w2) := fun w' b => upTo_at fs ss os vf vs vo 6 6 w' hf hs hl (by omega) (Rd.later h1 b) (Rd.later h2 b) (h3 w' b)
  clear hf hs hl hn h1 h2 h3
  go_enter Try.func6, Try.ntmps6
  go_wp2_with fail
  refine (FA.out _).mono ?_
  rintro e w1 ⟨v, rfl, r1, b1⟩
  have S1 : Hid (RdO w1 v fallenL ∧ Below w.heap.size w w1) := ⟨r1, b1⟩
  clear r1 b1 FA
  go_wp2_with fail
  refine (UF.out _ _ S1.out.1).mono ?_
  rintro e w2 ⟨rfl, b2⟩
  have S2 : Hid (Below w.heap.size w w2) := below_trans S1.out.2 b2
  clear b2 S1 UF
  go_wp2_with fail
  refine (UG.out _ S2.out).mono ?_
  rintro e w3 ⟨rfl, b3⟩
  have S3 : Hid (Below w.heap.size w w3) := below_trans S2.out b3
  clear b3 S2 UG
  go_wp2_with fail
  go_ret
  exact ⟨rfl, S3.out⟩
theorem RdO.later {w w' : World} {v : Value} {os : List OpD} (h : RdO w v os) (hb : Below w.heap.size w w') : RdO w' v os := by
  obtain ⟨ao, cap, e, H⟩ := h
  refine ⟨ao, cap, e, fun i o hi => ?_⟩
  obtain ⟨g, off, x, c, e1, lt, c0, c1, c2, c3, c4, c5, r⟩ := H i o hi
  have cc : ∀ j, w'.cell? ⟨g, j, none⟩ = w.cell? ⟨g, j, none⟩ := fun j => hb.cell (p := ⟨g, j, none⟩) lt
  exact ⟨g, off, x, c, e1, Nat.lt_of_lt_of_le lt hb.size, (cc _).trans c0, (cc _).trans c1, (cc _).trans c2, (cc _).trans c3, (cc _).trans c4, (cc _).trans c5, Rd.later r hb⟩
end Go.Proofs.Ytiefnomldfhhnaa
