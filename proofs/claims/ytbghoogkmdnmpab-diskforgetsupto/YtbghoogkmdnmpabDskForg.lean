/-
  Ours: DiskForgets' walk.
-/
import Derived.Test.YtbghoogkmdnmpabDskSame
namespace Go.Proofs.Ytbghoogkmdnmpab
open Go.RowKit

/-- A script that came in. -/
def RdO (w : World) (v : Value) (os : List OpD) : Prop :=
  ∃ ao cap, v = .slice ao os.length cap ∧ ∀ i o, os[i]? = some o → ∃ g off x c, ao = some ⟨g, off, none⟩ ∧ g < w.heap.size ∧
    w.cell? ⟨g, off + i * 6, none⟩ = some (.int .i64 o.kind) ∧ w.cell? ⟨g, off + i * 6 + 1, none⟩ = some (.bool o.other) ∧ w.cell? ⟨g, off + i * 6 + 2, none⟩ = some (.int .i64 o.file) ∧ w.cell? ⟨g, off + i * 6 + 3, none⟩ = some (.int .i64 o.a) ∧ w.cell? ⟨g, off + i * 6 + 4, none⟩ = some (.int .i64 o.b) ∧ w.cell? ⟨g, off + i * 6 + 5, none⟩ = some (.slice x o.data.length c) ∧ RdB w (.slice x o.data.length c) o.data
/-- An operation of a script, whatever was made since. -/
theorem RdO.op {w : World} {ao : Option Addr} {n cap : Nat} {os : List OpD} (h : RdO w (.slice ao n cap) os) (hl : ∀ o ∈ os, o.data.length ≤ 1048576) (i : Nat) (hi : i < n) : ∃ (o : OpD) (g off : Nat) (x : Option Addr) (c : Nat), ao = some ⟨g, off, none⟩ ∧ o.data.length ≤ 1048576 ∧ ∀ w', Below w.heap.size w w' →
    w'.cell? ⟨g, off + i * 6, none⟩ = some (.int .i64 o.kind) ∧ w'.cell? ⟨g, off + i * 6 + 1, none⟩ = some (.bool o.other) ∧ w'.cell? ⟨g, off + i * 6 + 2, none⟩ = some (.int .i64 o.file) ∧ w'.cell? ⟨g, off + i * 6 + 3, none⟩ = some (.int .i64 o.a) ∧ w'.cell? ⟨g, off + i * 6 + 4, none⟩ = some (.int .i64 o.b) ∧ w'.cell? ⟨g, off + i * 6 + 5, none⟩ = some (.slice x o.data.length c) ∧ RdB w' (.slice x o.data.length c) o.data := by
  obtain ⟨ao', cap', e, H⟩ := h
  injection e with e1 e2 e3
  subst e1 e2
  have ho : os[i]? = some os[i] := List.getElem?_eq_getElem hi
  obtain ⟨g, off, x, c, e1, lt, c0, c1, c2, c3, c4, c5, r⟩ := H i _ ho
  refine ⟨os[i], g, off, x, c, e1, hl _ (List.getElem_mem _), fun w' hb => ?_⟩
  have cc : ∀ j, w'.cell? ⟨g, j, none⟩ = w.cell? ⟨g, j, none⟩ := fun j => hb.cell (p := ⟨g, j, none⟩) lt
  exact ⟨(cc _).trans c0, (cc _).trans c1, (cc _).trans c2, (cc _).trans c3, (cc _).trans c4, (cc _).trans c5, Rd.later r hb⟩

/-- A row of so many cells. -/
def HasRow (w : World) (v : Value) (n : Nat) : Prop := ∃ ys : List Value, ys.length = n ∧ RowV 5 0 w v ys
theorem HasRow.set {w : World} {v : Value} {n : Nat} (h : HasRow w v n) (g i : Nat) (u : Value) : HasRow (w.setCell ⟨g, i, none⟩ u) v n := by
  obtain ⟨ys, h1, h2⟩ := h
  rcases h2.2 with ⟨e, e0⟩ | ⟨g', cap, cur, e, hb, hg, rest⟩
  · exact ⟨ys, h1, h2.1, .inl ⟨e, e0⟩⟩
  · by_cases hgg : g' = g
    · subst hgg
      subst e
      obtain ⟨r, _⟩ := World.ownsRow.stored h2 i u
      exact ⟨ys.set i u, by rw [List.length_set, h1], by unfold RowV; rw [List.length_set]; exact r⟩
    · refine ⟨ys, h1, h2.kp (setCell_kp w g i u) (fun x hx e2 => ?_)⟩
      rw [e] at hx
      simp [Value.ownBlock] at hx
      omega
theorem HasRow.at {w : World} {a : Option Addr} {n m c : Nat} (h : HasRow w (.slice a n c) m) {i : Nat} (hi : i < m) : ∃ g u, a = some ⟨g, 0, none⟩ ∧ w.cell? ⟨g, i, none⟩ = some u ∧ w.frozen? ⟨g, i, none⟩ = false := by
  obtain ⟨ys, h1, h2⟩ := h
  rcases h2.2 with ⟨e, e0⟩ | ⟨g', cap, cur, e, hb, hg, h3, h4, h5, h6⟩
  · omega
  · injection e with e1 e2 e3
    subst e1
    have hlt : i < cur.size := by omega
    exact ⟨g', cur[i], rfl, by simp [World.cell?, hg, hlt], by simp [World.frozen?, hg]⟩
/-- What the overwriting leaves. -/
structure Keep (w0 : World) (R R2 Q : Nat) (S S2 : Nat → Prop) (t t2 : Dk) (a0 : Option Addr) (n0 c0 : Nat) (b1 : Option Addr) (n1 d1 : Nat) (a2 : Option Addr) (c2 : Nat) (a3 : Option Addr) (c3 : Nat) (w : World) : Prop where
  i1 : DkIn w0 R S t w
  i2 : DkIn w0 R2 S2 t2 w
  bs : Blk Q 46 [.slice a0 n0 c0, .slice b1 n1 d1, .slice a2 n0 c2, .slice a3 n1 c3, .bool false] w
  r2 : HasRow w (.slice a2 n0 c2) n0
  r3 : HasRow w (.slice a3 n1 c3) n1
  q : w0.heap.size ≤ Q
theorem Keep.set {w0 : World} {R R2 Q : Nat} {S S2 : Nat → Prop} {t t2 : Dk} {a0 : Option Addr} {n0 c0 : Nat} {b1 : Option Addr} {n1 d1 : Nat} {a2 : Option Addr} {c2 : Nat} {a3 : Option Addr} {c3 : Nat} {w : World} (h : Keep w0 R R2 Q S S2 t t2 a0 n0 c0 b1 n1 d1 a2 c2 a3 c3 w) (g i : Nat) (u : Value) (hS : ¬ S g) (hS2 : ¬ S2 g) (hQ : g ≠ Q) (hg : w0.heap.size ≤ g) : Keep w0 R R2 Q S S2 t t2 a0 n0 c0 b1 n1 d1 a2 c2 a3 c3 (w.setCell ⟨g, i, none⟩ u) := by
  have k := setCell_kp w g i u
  have bb : Below w0.heap.size w0 (w.setCell ⟨g, i, none⟩ u) := Below.of_kp h.i1.bel k (fun x hx => hx ▸ hg)
  exact ⟨⟨h.i1.at_.kp k (fun x hx e => hS (e ▸ hx)), h.i1.new, bb⟩, ⟨h.i2.at_.kp k (fun x hx e => hS2 (e ▸ hx)), h.i2.new, bb⟩, h.bs.kp k (fun e => hQ e.symm), h.r2.set g i u, h.r3.set g i u, h.q⟩

set_option maxRecDepth 20000 in
set_option maxHeartbeats 8000000 in
theorem forgets_any (fs ss : List Nat) (vf vs : Value) (a1 a2 : Option Addr) (n1 n2 c1 c2 : Nat) (os1 os2 : List OpD) (w : World) (hf : fs.length ≤ 1048576) (hs : ss.length ≤ 1048576) (rf : RdB w vf fs) (rs : RdB w vs ss)
    (h1 : RdO w (.slice a1 n1 c1) os1) (h2 : RdO w (.slice a2 n2 c2) os2) (hl1 : ∀ o ∈ os1, o.data.length ≤ 1048576) (hl2 : ∀ o ∈ os2, o.data.length ≤ 1048576) (hn1 : n1 ≤ 1048576) (hn2 : n2 ≤ 1048576) :
    Calls Try.prog 4 #[vf, vs, .slice a1 n1 c1, .slice a2 n2 c2] w fun e w' => e = .returned (.bool true) ∧ Below w.heap.size w w' := by
  have O1 : Hid (∀ i, i < n1 → ∃ (o : OpD) (g off : Nat) (x : Option Addr) (c : Nat), a1 = some ⟨g, off, none⟩ ∧ o.data.length ≤ 1048576 ∧ ∀ w', Below w.heap.size w w' → w'.cell? ⟨g, off + i * 6, none⟩ = some (.int .i64 o.kind) ∧ w'.cell? ⟨g, off + i * 6 + 1, none⟩ = some (.bool o.other) ∧ w'.cell? ⟨g, off + i * 6 + 2, none⟩ = some (.int .i64 o.file) ∧ w'.cell? ⟨g, off + i * 6 + 3, none⟩ = some (.int .i64 o.a) ∧ w'.cell? ⟨g, off + i * 6 + 4, none⟩ = some (.int .i64 o.b) ∧ w'.cell? ⟨g, off + i * 6 + 5, none⟩ = some (.slice x o.data.length c) ∧ RdB w' (.slice x o.data.length c) o.data) := fun i hi => h1.op hl1 i hi
  have O2 : Hid (∀ i, i < n2 → ∃ (o : OpD) (g off : Nat) (x : Option Addr) (c : Nat), a2 = some ⟨g, off, none⟩ ∧ o.data.length ≤ 1048576 ∧ ∀ w', Below w.heap.size w w' → w'.cell? ⟨g, off + i * 6, none⟩ = some (.int .i64 o.kind) ∧ w'.cell? ⟨g, off + i * 6 + 1, none⟩ = some (.bool o.other) ∧ w'.cell? ⟨g, off + i * 6 + 2, none⟩ = some (.int .i64 o.file) ∧ w'.cell? ⟨g, off + i * 6 + 3, none⟩ = some (.int .i64 o.a) ∧ w'.cell? ⟨g, off + i * 6 + 4, none⟩ = some (.int .i64 o.b) ∧ w'.cell? ⟨g, off + i * 6 + 5, none⟩ = some (.slice x o.data.length c) ∧ RdB w' (.slice x o.data.length c) o.data) := fun i hi => h2.op hl2 i hi
  have CP : Hid (∀ (bs : List Nat) v w', bs.length ≤ 1048576 → RdB w' v bs → Calls Try.prog 12 #[v] w' (NewB w' bs)) := fun bs v w' h1 h2 => lcopied_at bs v w' (by omega) h2
  have LD : Hid (∀ (xa xb : List Nat) va vb w', xa.length ≤ 16777216 → xb.length ≤ 16777216 → RdB w' va xa → RdB w' vb xb → Calls Try.prog 18 #[va, vb] w' (NewD w' (Dk.load xa xb))) := fun xa xb va vb w' h1 h2 h3 h4 => load_at xa xb va vb w' (by omega) (by omega) h3 h4
  have WK : Hid (∀ w', Calls Try.prog 8 #[] w' fun e w'' => e = .returned (.bool true) ∧ Below w'.heap.size w' w'') := fun w' => works_at w'
  have DO : Hid (∀ R S t w' (o : OpD) x c, 0 ≤ t.wr ∧ t.wr < 4611686018427387904 → DkIn w R S t w' → o.data.length ≤ 1048576 → RdB w' (.slice x o.data.length c) o.data → Calls Try.prog 19 #[.pointer (some ⟨R, 0, none⟩), .agg #[.int .i64 o.kind, .bool o.other, .int .i64 o.file, .int .i64 o.a, .int .i64 o.b, .slice x o.data.length c]] w' fun e w'' => e = .returned (.int .i64 (t.done o).2) ∧ DkPost R S w' (t.done o).1 w'') := fun R S t w' o x c hw h hl hr => done_at R S t w' hw h.at_ o x c hl hr
  have rs1 := rs
  go_enter Try.func4, Try.ntmps4
  go_wp2_with fail
  refine (CP.out fs _ _ hf rf).mono ?_
  rintro e w1 ⟨v1, rfl, r1, b1⟩
  have rs2 := Rd.later rs b1
  go_wp2_with fail
  refine (CP.out ss _ _ hs rs2).mono ?_
  rintro e w2 ⟨v2, rfl, r2, b2⟩
  have r1' := Rd.later r1.rd b2
  have B2 := below_trans b1 b2
  go_wp2_with fail
  refine (LD.out fs ss _ _ _ (by omega) (by omega) r1' r2.rd).mono ?_
  rintro e w3 ⟨R, S3, rfl, d3, n3, b3⟩
  have I3 : DkIn w R S3 (Dk.load fs ss) w3 := ⟨d3, fun g hg => Nat.le_trans B2.size (n3 g hg), below_trans B2 b3⟩
  clear rf rs rs1 rs2 r1 r1' r2 b1 b2 b3 B2 d3 n3 h1 h2 hl1 hl2
  go_wp2_with fail
  refine (WK.out _).mono ?_
  rintro e w4 ⟨rfl, b4⟩
  have I4 := I3.below b4
  clear I3 b4 WK CP
  go_wp2_with fail
  go_loopw [10] (fun vk wr => ∃ (k : Nat) (S : Nat → Prop) (t : Dk), vk = .int .i64 (k : Int) ∧ k ≤ n1 ∧ DkIn w R S t wr ∧ Hid (t.Inv ∧ 0 ≤ t.wr ∧ t.wr ≤ (k : Int))) (fun vk _ => n1 - (intOf vk).toNat)
  case atStart => exact ⟨0, S3, _, rfl, by omega, I4, ⟨(fun h => by cases h), Int.le_refl _, Int.le_refl _⟩⟩
  case round =>
    clear I4
    obtain ⟨k, S, t, rfl, hk, Ik, inv⟩ := hrel
    by_cases hlt : (k : Int) < (n1 : Int)
    · obtain ⟨o, g, off, x, c, rfl, hol, hc⟩ := O1.out k (by omega)
      obtain ⟨e0, e1, e2, e3, e4, e5, rd⟩ := hc wr Ik.bel
      have D1 : Hid (Calls _ _ _ _ _) := DO.out R S t wr o x c (by have := inv.out.2; omega) Ik hol rd
      have P1 : Hid (∀ {w' : World}, DkPost R S wr (t.done o).1 w' → ∃ S', DkIn w R S' (t.done o).1 w') := fun p => by
        obtain ⟨S', i1, _, _⟩ := Ik.post p
        exact ⟨S', i1⟩
      have V1 : Hid ((t.done o).1.Inv ∧ 0 ≤ (t.done o).1.wr ∧ (t.done o).1.wr ≤ ((k + 1 : Nat) : Int)) := ⟨done_inv Ik.at_.1 inv.out.1 o, by have := (done_wr t o).1; have := inv.out.2; omega, by have := (done_wr t o).2; have := inv.out.2; omega⟩
      clear rd hc Ik inv
      go_wp2_with fail
      refine D1.out.mono ?_
      rintro e w5 ⟨rfl, p5⟩
      obtain ⟨S5, I5⟩ := P1.out p5
      clear p5 e0 e1 e2 e3 e4 e5 D1 P1
      go_wp2_with fail
      go_roundw
      case rel => exact ⟨k + 1, S5, _, by go_num, by omega, I5, V1⟩
      case measure => simp [intOf]; omega
    · clear DO O1
      have DI : Hid (Calls _ _ _ _ _) := disarm_at R S t wr Ik.at_
      have TOK : t.Ok := Ik.at_.1
      have INV := inv.out
      have ST : Hid (∀ {w' : World} {t' : Dk}, DkPost R S wr t' w' → ∃ S', DkIn w R S' t' w') := fun p => by
        obtain ⟨S', i1, _, _⟩ := Ik.post p
        exact ⟨S', i1⟩
      have hkn : k = n1 := by omega
      clear Ik inv
      go_wp2_with fail
      refine DI.out.mono ?_
      rintro e w5 ⟨rfl, p5⟩
      obtain ⟨S5, I5⟩ := ST.out p5
      have DNh : Hid (Calls _ _ _ _ _) := down_at R S5 _ w5 I5.at_
      clear p5 DI ST
      go_wp2_with fail
      refine DNh.out.mono ?_
      rintro e w6 ⟨rfl, e6⟩
      subst e6
      clear DNh
      have KEY : ∃ (ta : Dk), (∃ B0 B1 W, ta = ⟨B0, B0.length, B1, B1.length, [], W, true⟩ ∧ B0.length ≤ 16777216 ∧ B1.length ≤ 16777216 ∧ 0 ≤ W ∧ W ≤ 1048577) ∧ ((t.dn = true ∧ ta = { t with q := [] }) ∨ (t.dn = false ∧ ta = (({ t with q := [(1, 0)] } : Dk).write.1) ∧ ({ t with q := [(1, 0)] } : Dk).write.2 = 51)) := by
        by_cases hd : t.dn = true
        · refine ⟨{ t with q := [] }, ⟨t.b0, t.b1, t.wr, ?_, TOK.l0, TOK.l1, INV.2.1, by have := INV.2.2; omega⟩, .inl ⟨hd, rfl⟩⟩
          have := INV.1 hd
          cases t
          simp_all
        · have hd' : t.dn = false := by simpa using hd
          have e : ({ t with q := [(1, 0)] } : Dk).write = ((({ t with q := [(1, 0)] } : Dk).tick (1, 0) []).down 0, 51) := Dk.write_cons (t := { t with q := [(1, 0)] }) rfl
          refine ⟨_, ⟨t.b0.take t.d0, t.b1.take t.d1, t.wr + 1, ?_, ?_, ?_, by have := INV.2; omega, by have := INV.2; omega⟩, .inr ⟨hd', rfl, by rw [e]⟩⟩
          · rw [e]
            have h0 := TOK.d0
            have h1 := TOK.d1
            simp only [Dk.down, Dk.lose0, Dk.lose1, Dk.tick, left, Nat.zero_min, Nat.add_zero, List.tail_cons, Dk.mk.injEq, List.length_take, and_true, true_and]
            omega
          · rw [List.length_take]; have := TOK.l0; omega
          · rw [List.length_take]; have := TOK.l1; omega
      obtain ⟨ta, ⟨B0, B1, W, hta, hB0, hB1, hW0, hW1⟩, hcase⟩ := KEY
      have FROM : ∀ (w7 : World) (S7 : Nat → Prop), DkIn w R S7 ta w7 → True := fun _ _ _ => trivial
      clear FROM
      have UP : Hid (∀ S7 w7, DkIn w R S7 ta w7 → Calls Try.prog 22 #[.pointer (some ⟨R, 0, none⟩)] w7 fun e w' => e = .returned (.int .i64 0) ∧ ∃ S', DkIn w R S' ⟨B0, B0.length, B1, B1.length, [], W, false⟩ w') := fun S7 w7 h => by
        subst hta
        refine (restart_at R S7 _ w7 h.at_).mono ?_
        rintro e w' ⟨rfl, p⟩
        obtain ⟨S', i1, _, _⟩ := h.post p
        exact ⟨rfl, S', i1⟩
      have SI : Hid (∀ S' w', DkIn w R S' ⟨B0, B0.length, B1, B1.length, [], W, false⟩ w' → Calls Try.prog 23 #[.pointer (some ⟨R, 0, none⟩)] w' fun e w'' => (∃ a0 c0 a1 c1 a2 c2 a3 c3, e = .returned (.agg #[.slice a0 B0.length c0, .slice a1 B1.length c1, .slice a2 B0.length c2, .slice a3 B1.length c3, .bool false]) ∧ RowB 5 w'.heap.size w'' (.slice a2 B0.length c2) B0 ∧ RowB 5 w'.heap.size w'' (.slice a3 B1.length c3) B1) ∧ Below w'.heap.size w' w'') := fun S' w' h => by
        have q0 : Dk.durable ⟨B0, B0.length, B1, B1.length, [], W, false⟩ 0 = (B0, 0) := by simp [Dk.durable, Dk.fb, Dk.fd]
        have q1 : Dk.durable ⟨B0, B0.length, B1, B1.length, [], W, false⟩ 1 = (B1, 0) := by simp [Dk.durable, Dk.fb, Dk.fd]
        refine (side_at R S' _ w' h.at_).mono ?_
        rintro e w'' ⟨⟨a0, c0, a1, c1, a2, c2, a3, c3, rfl, sv⟩, b⟩
        have d0 := sv.d0
        have d1 := sv.d1
        rw [q0] at d0 ⊢
        rw [q1] at d1 ⊢
        exact ⟨⟨a0, c0, a1, c1, a2, c2, a3, c3, rfl, d0, d1⟩, b⟩
      have AR : Hid (∀ S' w', t.dn = false → DkIn w R S' { t with q := [] } w' → Calls Try.prog 10 #[.pointer (some ⟨R, 0, none⟩), .int .i64 1, .int .i64 0] w' fun e w'' => e = .returned (.int .i64 0) ∧ ∃ S'', DkIn w R S'' { t with q := [(1, 0)] } w'') := fun S' w' _ h => by
        refine (arm_at R S' _ w' 1 0 h.at_).mono ?_
        rintro e w'' ⟨rfl, p⟩
        obtain ⟨S'', i1, _, _⟩ := h.post p
        exact ⟨rfl, S'', i1⟩
      have SY : Hid (∀ S' w', t.dn = false → ({ t with q := [(1, 0)] } : Dk).write.2 = 51 → ta = ({ t with q := [(1, 0)] } : Dk).write.1 → DkIn w R S' { t with q := [(1, 0)] } w' → Calls Try.prog 21 #[.pointer (some ⟨R, 0, none⟩), .int .i64 0] w' fun e w'' => e = .returned (.int .i64 51) ∧ ∃ S'', DkIn w R S'' ta w'') := fun S' w' hd h51 hta' h => by
        have e : Dk.sync { t with q := [(1, 0)] } 0 = ({ t with q := [(1, 0)] } : Dk).write := by
          unfold Dk.sync
          rw [if_neg (by simp [Dk.no, hd]), if_pos (by rw [h51]; decide)]
        have := sync_at R S' { t with q := [(1, 0)] } w' 0 ⟨by have := INV.2; show 0 ≤ t.wr; omega, by have := INV.2; show t.wr < _; omega⟩ h.at_
        rw [e, h51] at this
        refine this.mono ?_
        rintro e w'' ⟨rfl, p⟩
        obtain ⟨S'', i1, _, _⟩ := h.post p
        exact ⟨rfl, S'', hta' ▸ i1⟩
      have HI5 : Hid (DkIn w R S5 { t with q := [] } w6) := I5
      clear I5 hta
      rcases hcase with ⟨hd, hta2⟩ | ⟨hd, hta2, h51⟩
      · rw [show ({ t with q := [] } : Dk).dn = true from hd]
        have I7 : DkIn w R S5 ta w6 := hta2 ▸ HI5.out
        obtain ⟨S7, w7, J7, hw7⟩ : ∃ S7 w7, DkIn w R S7 ta w7 ∧ w6 = w7 := ⟨S5, w6, I7, rfl⟩
        clear HI5 AR SY hta2 I7
        go_upto_region 14 with fail
        clear hw7
        have UP1 : Hid (Calls _ _ _ _ _) := UP.out S7 w7 J7
        clear J7 UP
        go_wp2_with fail
        refine UP1.out.mono ?_
        rintro e w8 ⟨rfl, S8, I8⟩
        have SI1 : Hid (Calls _ _ _ _ _) := SI.out S8 w8 I8
        clear UP1 SI
        go_wp2_with fail
        refine SI1.out.mono ?_
        rintro e w9 ⟨⟨a0, c0, b1, d1, a2', c2', a3, c3, rfl, rA, rB⟩, b9⟩
        have I9 := I8.below b9
        have A9 : Hid (∀ g, (Value.slice a2' B0.length c2').ownBlock = some g → ¬ S8 g ∧ w.heap.size ≤ g) := fun g hg => ⟨fun hs => by have := rA.block_ge hg; have := I8.at_.size g hs; omega, Nat.le_trans I8.bel.size (rA.block_ge hg)⟩
        have A9' : Hid (∀ g, (Value.slice a3 B1.length c3).ownBlock = some g → ¬ S8 g ∧ w.heap.size ≤ g) := fun g hg => ⟨fun hs => by have := rB.block_ge hg; have := I8.at_.size g hs; omega, Nat.le_trans I8.bel.size (rB.block_ge hg)⟩
        have BA := below_alloc w9 (.cells #[.slice a0 B0.length c0, .slice b1 B1.length d1, .slice a2' B0.length c2', .slice a3 B1.length c3, .bool false] 46)
        have BS := Blk.new 46 [.slice a0 B0.length c0, .slice b1 B1.length d1, .slice a2' B0.length c2', .slice a3 B1.length c3, .bool false] w9
        have I10 := I9.below BA
        have rA10 := (RowV.later rA BA).mono (Nat.zero_le _)
        have rB10 := (RowV.later rB BA).mono (Nat.zero_le _)
        have WQ : Hid (w.heap.size ≤ w9.heap.size) := I9.bel.size
        have N10 : Hid (¬ S8 w9.heap.size) := fun hs => by have := I9.at_.size _ hs; omega
        have M10 : Hid (∀ g, (Value.slice a2' B0.length c2').ownBlock = some g → g ≠ w9.heap.size) := fun g hg e => by have := rA.block_lt hg; omega
        have M10' : Hid (∀ g, (Value.slice a3 B1.length c3).ownBlock = some g → g ≠ w9.heap.size) := fun g hg e => by have := rB.block_lt hg; omega
        clear I8 I9 b9 rA rB SI1
        go_upto_region 17 with fail
        generalize w9.alloc (.cells #[.slice a0 B0.length c0, .slice b1 B1.length d1, .slice a2' B0.length c2', .slice a3 B1.length c3, .bool false] 46) = w10 at *
        obtain ⟨Q, hQ⟩ : ∃ Q, w9.heap.size = Q := ⟨_, rfl⟩
        rw [hQ] at BS N10 M10 M10' WQ ⊢
        clear hQ BA
        have q2 := BS.cell 2 _ rfl
        have q3 := BS.cell 3 _ rfl
        have LD1 : Hid (Calls _ _ _ _ _) := LD.out B0 B1 _ _ w10 hB0 hB1 rA10.rd rB10.rd
        clear LD
        go_wp2_with fail
        refine LD1.out.mono ?_
        rintro e w11 ⟨R2, S11, rfl, d11, n11, b11⟩
        have esh : (⟨B0, B0.length, B1, B1.length, [], W, false⟩ : Dk) = Dk.sh ⟨B0, B0.length, B1, B1.length, [], 0, false⟩ W := by simp [Dk.sh]
        have etl : Dk.load B0 B1 = ⟨B0, B0.length, B1, B1.length, [], 0, false⟩ := by unfold Dk.load loadL; rw [List.take_of_length_le hB0, List.take_of_length_le hB1]
        rw [etl] at d11
        rw [esh] at I10
        have K : Keep w R R2 Q S8 S11 (Dk.sh ⟨B0, B0.length, B1, B1.length, [], 0, false⟩ W) ⟨B0, B0.length, B1, B1.length, [], 0, false⟩ a0 B0.length c0 b1 B1.length d1 a2' c2' a3 c3 w11 :=
          ⟨I10.below b11, ⟨d11, fun g hg => Nat.le_trans I10.bel.size (n11 g hg), below_trans I10.bel b11⟩, BS.below b11, ⟨_, by rw [List.length_map], RowV.later rA10 b11⟩, ⟨_, by rw [List.length_map], RowV.later rB10 b11⟩, WQ.out⟩
        have AA : Hid (∀ g, (Value.slice a2' B0.length c2').ownBlock = some g → ¬ S8 g ∧ ¬ S11 g ∧ g ≠ Q ∧ w.heap.size ≤ g) := fun g hg => ⟨(A9.out g hg).1, fun hs => by have := rA10.block_lt hg; have := n11 g hs; omega, M10.out g hg, (A9.out g hg).2⟩
        have AB : Hid (∀ g, (Value.slice a3 B1.length c3).ownBlock = some g → ¬ S8 g ∧ ¬ S11 g ∧ g ≠ Q ∧ w.heap.size ≤ g) := fun g hg => ⟨(A9'.out g hg).1, fun hs => by have := rB10.block_lt hg; have := n11 g hs; omega, M10'.out g hg, (A9'.out g hg).2⟩
        have DJ : Hid (∀ g, S8 g → ¬ S11 g) := fun g h1 h2 => by have := I10.at_.size g h1; have := n11 g h2; omega
        clear d11 n11 b11 I10 BS rA10 rB10 A9 A9' M10 M10' N10 LD1 q2 q3
        go_wp2_with fail
        go_loopw [15] (fun vf wr => ∃ f : Nat, vf = .int .i64 (f : Int) ∧ f ≤ 2 ∧ Keep w R R2 Q S8 S11 (Dk.sh ⟨B0, B0.length, B1, B1.length, [], 0, false⟩ W) ⟨B0, B0.length, B1, B1.length, [], 0, false⟩ a0 B0.length c0 b1 B1.length d1 a2' c2' a3 c3 wr) (fun vf _ => 2 - (intOf vf).toNat)
        case atStart => exact ⟨0, rfl, by omega, K⟩
        case round =>
          clear K
          obtain ⟨f, rfl, hf2, K⟩ := hrel
          obtain rfl | rfl | rfl : f = 0 ∨ f = 1 ∨ f = 2 := by omega
          · go_wp2_with fail
            go_loopw [16] (fun vi wr => ∃ i : Nat, vi = .int .i64 (i : Int) ∧ i ≤ 4096 ∧ Keep w R R2 Q S8 S11 _ _ a0 B0.length c0 b1 B1.length d1 a2' c2' a3 c3 wr) (fun vi _ => 4096 - (intOf vi).toNat)
            case atStart => exact ⟨0, rfl, by omega, K⟩
            case round =>
              clear K
              obtain ⟨i, rfl, hi, K⟩ := hrel
              have qc := K.bs.cell 2 _ rfl
              by_cases l1 : (i : Int) < (B0.length : Int)
              · by_cases l2 : (i : Int) < 4096
                · obtain ⟨g, u, rfl, cu, fu⟩ := HasRow.at K.r2 (i := i) (by omega)
                  have K2 := K.set g i (.int .u8 97) (AA.out g rfl).1 (AA.out g rfl).2.1 (AA.out g rfl).2.2.1 (AA.out g rfl).2.2.2
                  have KH : Hid (Keep _ _ _ _ _ _ _ _ _ _ _ _ _ _ _ _ _ _ _) := K2
                  clear K K2
                  go_wp2_with fail
                  go_roundw
                  case rel => exact ⟨i + 1, by go_num, by omega, KH.out⟩
                  case measure => simp [intOf]; omega
                · have KH : Hid (Keep _ _ _ _ _ _ _ _ _ _ _ _ _ _ _ _ _ _ _) := K
                  clear K
                  go_wp2_with fail
                  go_roundw
                  case rel => exact ⟨0 + 1, by go_num, by omega, KH.out⟩
                  case measure => simp [intOf]
              · have KH : Hid (Keep _ _ _ _ _ _ _ _ _ _ _ _ _ _ _ _ _ _ _) := K
                clear K
                go_wp2_with fail
                go_roundw
                case rel => exact ⟨0 + 1, by go_num, by omega, KH.out⟩
                case measure => simp [intOf]
          · go_wp2_with fail
            go_loopw [16] (fun vi wr => ∃ i : Nat, vi = .int .i64 (i : Int) ∧ i ≤ 4096 ∧ Keep w R R2 Q S8 S11 _ _ a0 B0.length c0 b1 B1.length d1 a2' c2' a3 c3 wr) (fun vi _ => 4096 - (intOf vi).toNat)
            case atStart => exact ⟨0, rfl, by omega, K⟩
            case round =>
              clear K
              obtain ⟨i, rfl, hi, K⟩ := hrel
              have qc := K.bs.cell 3 _ rfl
              by_cases l1 : (i : Int) < (B1.length : Int)
              · by_cases l2 : (i : Int) < 4096
                · obtain ⟨g, u, rfl, cu, fu⟩ := HasRow.at K.r3 (i := i) (by omega)
                  have K2 := K.set g i (.int .u8 97) (AB.out g rfl).1 (AB.out g rfl).2.1 (AB.out g rfl).2.2.1 (AB.out g rfl).2.2.2
                  have KH : Hid (Keep _ _ _ _ _ _ _ _ _ _ _ _ _ _ _ _ _ _ _) := K2
                  clear K K2
                  go_wp2_with fail
                  go_roundw
                  case rel => exact ⟨i + 1, by go_num, by omega, KH.out⟩
                  case measure => simp [intOf]; omega
                · have KH : Hid (Keep _ _ _ _ _ _ _ _ _ _ _ _ _ _ _ _ _ _ _) := K
                  clear K
                  go_wp2_with fail
                  go_roundw
                  case rel => exact ⟨1 + 1, by go_num, by omega, KH.out⟩
                  case measure => simp [intOf]
              · have KH : Hid (Keep _ _ _ _ _ _ _ _ _ _ _ _ _ _ _ _ _ _ _) := K
                clear K
                go_wp2_with fail
                go_roundw
                case rel => exact ⟨1 + 1, by go_num, by omega, KH.out⟩
                case measure => simp [intOf]
          · have TW : TwoD w R R2 W ⟨B0, B0.length, B1, B1.length, [], 0, false⟩ wr := ⟨S8, S11, K.i1, K.i2, DJ.out⟩
            have WS1 : Hid (Calls Try.prog 16 #[.pointer (some ⟨R, 0, none⟩)] wr fun e w' => e = .returned (.int .i64 W) ∧ w' = wr) := by
              have := writes_at R S8 _ wr K.i1.at_
              rw [show (Dk.sh ⟨B0, B0.length, B1, B1.length, [], 0, false⟩ W).wr = W from Int.zero_add W] at this
              exact this
            clear K AA AB DJ
            go_wp2_with fail
            refine WS1.out.mono ?_
            rintro e w12 ⟨rfl, e12⟩
            subst e12
            clear WS1
            go_wp2_with fail
            go_loopw [18] (fun vk wr => ∃ (k : Nat) (t' : Dk), vk = .int .i64 (k : Int) ∧ k ≤ n2 ∧ TwoD w R R2 W t' wr ∧ Hid (0 ≤ t'.wr ∧ t'.wr ≤ (k : Int))) (fun vk _ => n2 - (intOf vk).toNat)
            case atStart => exact ⟨0, _, rfl, by omega, TW, ⟨Int.le_refl _, Int.le_refl _⟩⟩
            case round =>
              clear TW
              obtain ⟨k, t', rfl, hk, TK, wb⟩ := hrel
              by_cases hlt : (k : Int) < (n2 : Int)
              · obtain ⟨o, g, off, x, c, rfl, hol, hc⟩ := O2.out k (by omega)
                obtain ⟨e0, e1, e2, e3, e4, e5, rd⟩ := hc _ TK.bel
                have DS : Hid (Calls _ _ _ _ _) := dsame_at w R R2 W t' _ (by have := wb.out; omega) TK o x c hol (fun w' hb => (hc w' hb).2.2.2.2.2.2)
                unfold opd at DS
                have WB : Hid (0 ≤ t'.wr ∧ t'.wr ≤ (k : Int)) := wb
                clear rd hc TK wb
                go_wp2_with fail
                refine DS.out.mono ?_
                rintro e w13 ⟨rfl, t'', T13, u1, u2⟩
                have WB2 : Hid (0 ≤ t''.wr ∧ t''.wr ≤ ((k + 1 : Nat) : Int)) := ⟨by have := WB.out; omega, by have := WB.out; omega⟩
                clear u1 u2 e0 e1 e2 e3 e4 e5 DS WB
                go_wp2_with fail
                go_roundw
                case rel => exact ⟨k + 1, t'', by go_num, by omega, T13, WB2⟩
                case measure => simp [intOf]; omega
              · have FIN := TK.bel
                clear TK wb
                go_wp2_with fail
                go_ret
                exact ⟨rfl, FIN⟩
      · rw [show ({ t with q := [] } : Dk).dn = false from hd]
        have AR1 : Hid (Calls _ _ _ _ _) := AR.out S5 w6 hd HI5.out
        clear HI5 AR
        go_wp2_with fail
        refine AR1.out.mono ?_
        rintro e w61 ⟨rfl, S61, I61⟩
        have SY1 : Hid (Calls _ _ _ _ _) := SY.out S61 w61 hd h51 hta2 I61
        clear I61 AR1 SY
        go_wp2_with fail
        refine SY1.out.mono ?_
        rintro e w7 ⟨rfl, S7, J7⟩
        clear SY1 hta2 h51
        go_upto_region 14 with fail
        have UP1 : Hid (Calls _ _ _ _ _) := UP.out S7 w7 J7
        clear J7 UP
        go_wp2_with fail
        refine UP1.out.mono ?_
        rintro e w8 ⟨rfl, S8, I8⟩
        have SI1 : Hid (Calls _ _ _ _ _) := SI.out S8 w8 I8
        clear UP1 SI
        go_wp2_with fail
        refine SI1.out.mono ?_
        rintro e w9 ⟨⟨a0, c0, b1, d1, a2', c2', a3, c3, rfl, rA, rB⟩, b9⟩
        have I9 := I8.below b9
        have A9 : Hid (∀ g, (Value.slice a2' B0.length c2').ownBlock = some g → ¬ S8 g ∧ w.heap.size ≤ g) := fun g hg => ⟨fun hs => by have := rA.block_ge hg; have := I8.at_.size g hs; omega, Nat.le_trans I8.bel.size (rA.block_ge hg)⟩
        have A9' : Hid (∀ g, (Value.slice a3 B1.length c3).ownBlock = some g → ¬ S8 g ∧ w.heap.size ≤ g) := fun g hg => ⟨fun hs => by have := rB.block_ge hg; have := I8.at_.size g hs; omega, Nat.le_trans I8.bel.size (rB.block_ge hg)⟩
        have BA := below_alloc w9 (.cells #[.slice a0 B0.length c0, .slice b1 B1.length d1, .slice a2' B0.length c2', .slice a3 B1.length c3, .bool false] 46)
        have BS := Blk.new 46 [.slice a0 B0.length c0, .slice b1 B1.length d1, .slice a2' B0.length c2', .slice a3 B1.length c3, .bool false] w9
        have I10 := I9.below BA
        have rA10 := (RowV.later rA BA).mono (Nat.zero_le _)
        have rB10 := (RowV.later rB BA).mono (Nat.zero_le _)
        have WQ : Hid (w.heap.size ≤ w9.heap.size) := I9.bel.size
        have N10 : Hid (¬ S8 w9.heap.size) := fun hs => by have := I9.at_.size _ hs; omega
        have M10 : Hid (∀ g, (Value.slice a2' B0.length c2').ownBlock = some g → g ≠ w9.heap.size) := fun g hg e => by have := rA.block_lt hg; omega
        have M10' : Hid (∀ g, (Value.slice a3 B1.length c3).ownBlock = some g → g ≠ w9.heap.size) := fun g hg e => by have := rB.block_lt hg; omega
        clear I8 I9 b9 rA rB SI1
        go_upto_region 17 with fail
        generalize w9.alloc (.cells #[.slice a0 B0.length c0, .slice b1 B1.length d1, .slice a2' B0.length c2', .slice a3 B1.length c3, .bool false] 46) = w10 at *
        obtain ⟨Q, hQ⟩ : ∃ Q, w9.heap.size = Q := ⟨_, rfl⟩
        rw [hQ] at BS N10 M10 M10' WQ ⊢
        clear hQ BA
        have q2 := BS.cell 2 _ rfl
        have q3 := BS.cell 3 _ rfl
        have LD1 : Hid (Calls _ _ _ _ _) := LD.out B0 B1 _ _ w10 hB0 hB1 rA10.rd rB10.rd
        clear LD
        go_wp2_with fail
        refine LD1.out.mono ?_
        rintro e w11 ⟨R2, S11, rfl, d11, n11, b11⟩
        have esh : (⟨B0, B0.length, B1, B1.length, [], W, false⟩ : Dk) = Dk.sh ⟨B0, B0.length, B1, B1.length, [], 0, false⟩ W := by simp [Dk.sh]
        have etl : Dk.load B0 B1 = ⟨B0, B0.length, B1, B1.length, [], 0, false⟩ := by unfold Dk.load loadL; rw [List.take_of_length_le hB0, List.take_of_length_le hB1]
        rw [etl] at d11
        rw [esh] at I10
        have K : Keep w R R2 Q S8 S11 (Dk.sh ⟨B0, B0.length, B1, B1.length, [], 0, false⟩ W) ⟨B0, B0.length, B1, B1.length, [], 0, false⟩ a0 B0.length c0 b1 B1.length d1 a2' c2' a3 c3 w11 :=
          ⟨I10.below b11, ⟨d11, fun g hg => Nat.le_trans I10.bel.size (n11 g hg), below_trans I10.bel b11⟩, BS.below b11, ⟨_, by rw [List.length_map], RowV.later rA10 b11⟩, ⟨_, by rw [List.length_map], RowV.later rB10 b11⟩, WQ.out⟩
        have AA : Hid (∀ g, (Value.slice a2' B0.length c2').ownBlock = some g → ¬ S8 g ∧ ¬ S11 g ∧ g ≠ Q ∧ w.heap.size ≤ g) := fun g hg => ⟨(A9.out g hg).1, fun hs => by have := rA10.block_lt hg; have := n11 g hs; omega, M10.out g hg, (A9.out g hg).2⟩
        have AB : Hid (∀ g, (Value.slice a3 B1.length c3).ownBlock = some g → ¬ S8 g ∧ ¬ S11 g ∧ g ≠ Q ∧ w.heap.size ≤ g) := fun g hg => ⟨(A9'.out g hg).1, fun hs => by have := rB10.block_lt hg; have := n11 g hs; omega, M10'.out g hg, (A9'.out g hg).2⟩
        have DJ : Hid (∀ g, S8 g → ¬ S11 g) := fun g h1 h2 => by have := I10.at_.size g h1; have := n11 g h2; omega
        clear d11 n11 b11 I10 BS rA10 rB10 A9 A9' M10 M10' N10 LD1 q2 q3
        go_wp2_with fail
        go_loopw [15] (fun vf wr => ∃ f : Nat, vf = .int .i64 (f : Int) ∧ f ≤ 2 ∧ Keep w R R2 Q S8 S11 (Dk.sh ⟨B0, B0.length, B1, B1.length, [], 0, false⟩ W) ⟨B0, B0.length, B1, B1.length, [], 0, false⟩ a0 B0.length c0 b1 B1.length d1 a2' c2' a3 c3 wr) (fun vf _ => 2 - (intOf vf).toNat)
        case atStart => exact ⟨0, rfl, by omega, K⟩
        case round =>
          clear K
          obtain ⟨f, rfl, hf2, K⟩ := hrel
          obtain rfl | rfl | rfl : f = 0 ∨ f = 1 ∨ f = 2 := by omega
          · go_wp2_with fail
            go_loopw [16] (fun vi wr => ∃ i : Nat, vi = .int .i64 (i : Int) ∧ i ≤ 4096 ∧ Keep w R R2 Q S8 S11 _ _ a0 B0.length c0 b1 B1.length d1 a2' c2' a3 c3 wr) (fun vi _ => 4096 - (intOf vi).toNat)
            case atStart => exact ⟨0, rfl, by omega, K⟩
            case round =>
              clear K
              obtain ⟨i, rfl, hi, K⟩ := hrel
              have qc := K.bs.cell 2 _ rfl
              by_cases l1 : (i : Int) < (B0.length : Int)
              · by_cases l2 : (i : Int) < 4096
                · obtain ⟨g, u, rfl, cu, fu⟩ := HasRow.at K.r2 (i := i) (by omega)
                  have K2 := K.set g i (.int .u8 97) (AA.out g rfl).1 (AA.out g rfl).2.1 (AA.out g rfl).2.2.1 (AA.out g rfl).2.2.2
                  have KH : Hid (Keep _ _ _ _ _ _ _ _ _ _ _ _ _ _ _ _ _ _ _) := K2
                  clear K K2
                  go_wp2_with fail
                  go_roundw
                  case rel => exact ⟨i + 1, by go_num, by omega, KH.out⟩
                  case measure => simp [intOf]; omega
                · have KH : Hid (Keep _ _ _ _ _ _ _ _ _ _ _ _ _ _ _ _ _ _ _) := K
                  clear K
                  go_wp2_with fail
                  go_roundw
                  case rel => exact ⟨0 + 1, by go_num, by omega, KH.out⟩
                  case measure => simp [intOf]
              · have KH : Hid (Keep _ _ _ _ _ _ _ _ _ _ _ _ _ _ _ _ _ _ _) := K
                clear K
                go_wp2_with fail
                go_roundw
                case rel => exact ⟨0 + 1, by go_num, by omega, KH.out⟩
                case measure => simp [intOf]
          · go_wp2_with fail
            go_loopw [16] (fun vi wr => ∃ i : Nat, vi = .int .i64 (i : Int) ∧ i ≤ 4096 ∧ Keep w R R2 Q S8 S11 _ _ a0 B0.length c0 b1 B1.length d1 a2' c2' a3 c3 wr) (fun vi _ => 4096 - (intOf vi).toNat)
            case atStart => exact ⟨0, rfl, by omega, K⟩
            case round =>
              clear K
              obtain ⟨i, rfl, hi, K⟩ := hrel
              have qc := K.bs.cell 3 _ rfl
              by_cases l1 : (i : Int) < (B1.length : Int)
              · by_cases l2 : (i : Int) < 4096
                · obtain ⟨g, u, rfl, cu, fu⟩ := HasRow.at K.r3 (i := i) (by omega)
                  have K2 := K.set g i (.int .u8 97) (AB.out g rfl).1 (AB.out g rfl).2.1 (AB.out g rfl).2.2.1 (AB.out g rfl).2.2.2
                  have KH : Hid (Keep _ _ _ _ _ _ _ _ _ _ _ _ _ _ _ _ _ _ _) := K2
                  clear K K2
                  go_wp2_with fail
                  go_roundw
                  case rel => exact ⟨i + 1, by go_num, by omega, KH.out⟩
                  case measure => simp [intOf]; omega
                · have KH : Hid (Keep _ _ _ _ _ _ _ _ _ _ _ _ _ _ _ _ _ _ _) := K
                  clear K
                  go_wp2_with fail
                  go_roundw
                  case rel => exact ⟨1 + 1, by go_num, by omega, KH.out⟩
                  case measure => simp [intOf]
              · have KH : Hid (Keep _ _ _ _ _ _ _ _ _ _ _ _ _ _ _ _ _ _ _) := K
                clear K
                go_wp2_with fail
                go_roundw
                case rel => exact ⟨1 + 1, by go_num, by omega, KH.out⟩
                case measure => simp [intOf]
          · have TW : TwoD w R R2 W ⟨B0, B0.length, B1, B1.length, [], 0, false⟩ wr := ⟨S8, S11, K.i1, K.i2, DJ.out⟩
            have WS1 : Hid (Calls Try.prog 16 #[.pointer (some ⟨R, 0, none⟩)] wr fun e w' => e = .returned (.int .i64 W) ∧ w' = wr) := by
              have := writes_at R S8 _ wr K.i1.at_
              rw [show (Dk.sh ⟨B0, B0.length, B1, B1.length, [], 0, false⟩ W).wr = W from Int.zero_add W] at this
              exact this
            clear K AA AB DJ
            go_wp2_with fail
            refine WS1.out.mono ?_
            rintro e w12 ⟨rfl, e12⟩
            subst e12
            clear WS1
            go_wp2_with fail
            go_loopw [18] (fun vk wr => ∃ (k : Nat) (t' : Dk), vk = .int .i64 (k : Int) ∧ k ≤ n2 ∧ TwoD w R R2 W t' wr ∧ Hid (0 ≤ t'.wr ∧ t'.wr ≤ (k : Int))) (fun vk _ => n2 - (intOf vk).toNat)
            case atStart => exact ⟨0, _, rfl, by omega, TW, ⟨Int.le_refl _, Int.le_refl _⟩⟩
            case round =>
              clear TW
              obtain ⟨k, t', rfl, hk, TK, wb⟩ := hrel
              by_cases hlt : (k : Int) < (n2 : Int)
              · obtain ⟨o, g, off, x, c, rfl, hol, hc⟩ := O2.out k (by omega)
                obtain ⟨e0, e1, e2, e3, e4, e5, rd⟩ := hc _ TK.bel
                have DS : Hid (Calls _ _ _ _ _) := dsame_at w R R2 W t' _ (by have := wb.out; omega) TK o x c hol (fun w' hb => (hc w' hb).2.2.2.2.2.2)
                unfold opd at DS
                have WB : Hid (0 ≤ t'.wr ∧ t'.wr ≤ (k : Int)) := wb
                clear rd hc TK wb
                go_wp2_with fail
                refine DS.out.mono ?_
                rintro e w13 ⟨rfl, t'', T13, u1, u2⟩
                have WB2 : Hid (0 ≤ t''.wr ∧ t''.wr ≤ ((k + 1 : Nat) : Int)) := ⟨by have := WB.out; omega, by have := WB.out; omega⟩
                clear u1 u2 e0 e1 e2 e3 e4 e5 DS WB
                go_wp2_with fail
                go_roundw
                case rel => exact ⟨k + 1, t'', by go_num, by omega, T13, WB2⟩
                case measure => simp [intOf]; omega
              · have FIN := TK.bel
                clear TK wb
                go_wp2_with fail
                go_ret
                exact ⟨rfl, FIN⟩
end Go.Proofs.Ytbghoogkmdnmpab
