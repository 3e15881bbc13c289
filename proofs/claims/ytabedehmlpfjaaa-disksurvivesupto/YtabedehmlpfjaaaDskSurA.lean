/-
  Ours: DiskSurvives' walk.
-/
import Derived.Test.YtabedehmlpfjaaaDskSurv2
import Derived.Test.YtabedehmlpfjaaaDskForg
namespace Go.Proofs.Ytabedehmlpfjaaa
open Go.RowKit

theorem load_dur (a b : List Nat) (ha : a.length ≤ 1048576) (hb : b.length ≤ 1048576) : ((Dk.load a b).durable 0).1 = a ∧ ((Dk.load a b).durable 1).1 = b ∧ ((Dk.load a b).read 0).1 = a ∧ ((Dk.load a b).read 1).1 = b := by
  have ea : loadL a = a := List.take_of_length_le (by omega)
  have eb : loadL b = b := List.take_of_length_le (by omega)
  unfold Dk.load
  rw [ea, eb]
  refine ⟨?_, ?_, ?_, ?_⟩
  · rw [dur_is (.inl rfl)]; unfold Dk.fb Dk.fd; simp
  · rw [dur_is (.inr rfl)]; unfold Dk.fb Dk.fd; simp
  · rw [read_up rfl (.inl rfl)]; rfl
  · rw [read_up rfl (.inr rfl)]; rfl

set_option maxRecDepth 100000 in
set_option maxHeartbeats 4000000 in
theorem survives_any (fs ss : List Nat) (fa : Option Addr) (fn fc : Nat) (sa : Option Addr) (sn sc : Nat) (a1 : Option Addr) (n1 c1 : Nat) (os1 : List OpD) (w : World) (hf : fs.length ≤ 1048576) (hs : ss.length ≤ 1048576) (rf : RdB w (.slice fa fn fc) fs) (rs : RdB w (.slice sa sn sc) ss)
    (h1 : RdO w (.slice a1 n1 c1) os1) (hl1 : ∀ o ∈ os1, o.data.length ≤ 1048576) (hn1 : n1 ≤ 1048576) :
    Calls Try.prog 3 #[.slice fa fn fc, .slice sa sn sc, .slice a1 n1 c1] w fun e w' => e = .returned (.bool true) ∧ Below w.heap.size w w' := by
  have O1 : Hid (∀ i, i < n1 → ∃ (o : OpD) (g off : Nat) (x : Option Addr) (c : Nat), a1 = some ⟨g, off, none⟩ ∧ o.data.length ≤ 1048576 ∧ ∀ w', Below w.heap.size w w' → w'.cell? ⟨g, off + i * 6, none⟩ = some (.int .i64 o.kind) ∧ w'.cell? ⟨g, off + i * 6 + 1, none⟩ = some (.bool o.other) ∧ w'.cell? ⟨g, off + i * 6 + 2, none⟩ = some (.int .i64 o.file) ∧ w'.cell? ⟨g, off + i * 6 + 3, none⟩ = some (.int .i64 o.a) ∧ w'.cell? ⟨g, off + i * 6 + 4, none⟩ = some (.int .i64 o.b) ∧ w'.cell? ⟨g, off + i * 6 + 5, none⟩ = some (.slice x o.data.length c) ∧ RdB w' (.slice x o.data.length c) o.data) := fun i hi => h1.op hl1 i hi
  have CP : Hid (∀ (bs : List Nat) v w', bs.length ≤ 1048576 → RdB w' v bs → Calls Try.prog 11 #[v] w' (NewB w' bs)) := fun bs v w' h1 h2 => lcopied_at bs v w' (by omega) h2
  have LD : Hid (∀ (xa xb : List Nat) va vb w', xa.length ≤ 16777216 → xb.length ≤ 16777216 → RdB w' va xa → RdB w' vb xb → Calls Try.prog 10 #[va, vb] w' (NewD w' (Dk.load xa xb))) := fun xa xb va vb w' h1 h2 h3 h4 => load_at xa xb va vb w' (by omega) (by omega) h3 h4
  have WK : Hid (∀ w', Calls Try.prog 9 #[] w' fun e w'' => e = .returned (.bool true) ∧ Below w'.heap.size w' w'') := fun w' => works_at w'
  have SV : Hid (∀ R S t w' (o : OpD) x c, 0 ≤ t.wr ∧ t.wr < 4611686018427387904 → t.Inv → DkIn w R S t w' → o.data.length ≤ 1048576 → (∀ w', Below w.heap.size w w' → RdB w' (.slice x o.data.length c) o.data) → Calls Try.prog 14 #[.pointer (some ⟨R, 0, none⟩), .agg #[.int .i64 o.kind, .bool o.other, .int .i64 o.file, .int .i64 o.a, .int .i64 o.b, .slice x o.data.length c]] w' fun e w'' => e = .returned (.bool true) ∧ ∃ S', DkIn w R S' (t.done o).1 w'') := fun R S t w' o x c hw inv h hl hr => survives_at w R S t w' h inv hw o x c hl hr
  have EQ : Hid (∀ w' (va vb : Value) (X : List Nat), X.length ≤ 1000000000 → RdB w' va X → RdB w' vb X → Calls Try.prog 13 #[va, vb] w' fun e w'' => e = .returned (.bool true) ∧ ∃ n, w'' = w'.drewN n) := fun w' va vb X hl h1 h2 => by
    have := equal_at X X va vb w' (by omega) h1 h2
    simpa using this
  have fl : fn = fs.length := by obtain ⟨_, _, e, _, _⟩ := rf.len; injection e with e1 e2; rw [e2, List.length_map]
  have sl : sn = ss.length := by obtain ⟨_, _, e, _, _⟩ := rs.len; injection e with e1 e2; rw [e2, List.length_map]
  have g1 : decide ((fn : Int) ≤ 16777216) = true := decide_eq_true (by omega)
  have g2 : decide ((sn : Int) ≤ 16777216) = true := decide_eq_true (by omega)
  have RF : Hid (∀ w', Below w.heap.size w w' → RdB w' (.slice fa fn fc) fs) := fun w' h => Rd.later rf h
  have RS : Hid (∀ w', Below w.heap.size w w' → RdB w' (.slice sa sn sc) ss) := fun w' h => Rd.later rs h
  obtain ⟨l1, l2, l3, l4⟩ := load_dur fs ss hf hs
  clear fl sl rf rs h1 hl1
  go_enter Try.func3, Try.ntmps3
  go_wp2_with fail
  refine (WK.out _).mono ?_
  rintro e wa ⟨rfl, ba⟩
  clear WK
  go_wp2_with fail
  refine (CP.out fs _ _ hf (RF.out _ ba)).mono ?_
  rintro e wb ⟨v1, rfl, r1, b1⟩
  have B1 := below_trans ba b1
  go_wp2_with fail
  refine (CP.out ss _ _ hs (RS.out _ B1)).mono ?_
  rintro e w2 ⟨v2, rfl, r2, b2⟩
  have r1' := Rd.later r1.rd b2
  have B2 := below_trans B1 b2
  go_wp2_with fail
  refine (LD.out fs ss _ _ _ (by omega) (by omega) r1' r2.rd).mono ?_
  rintro e w3 ⟨R, S3, rfl, d3, n3, b3⟩
  have I3 : DkIn w R S3 (Dk.load fs ss) w3 := ⟨d3, fun g hg => Nat.le_trans B2.size (n3 g hg), below_trans B2 b3⟩
  have SI : Hid (Calls _ _ _ _ _) := side_at R S3 _ w3 I3.at_
  rw [l1, l2, l3, l4, show (Dk.load fs ss).dn = false from rfl] at SI
  have LI : (Dk.load fs ss).Inv := fun h => by cases h
  have LW : (Dk.load fs ss).wr = 0 := rfl
  clear r1 r1' r2 b1 b2 b3 B2 B1 d3 n3 CP LD ba
  go_wp2_with fail
  refine SI.out.mono ?_
  rintro e w4 ⟨⟨x0, y0, x1, y1, x2, y2, x3, y3, rfl, V4⟩, b4⟩
  have BB := below_alloc w4 (.cells (SD x0 fs.length y0 x1 ss.length y1 x2 fs.length y2 x3 ss.length y3 false).toArray 30)
  have BK := Blk.new 30 (SD x0 fs.length y0 x1 ss.length y1 x2 fs.length y2 x3 ss.length y3 false) w4
  have I5 := (I3.below b4).below BB
  have rd2 := (RowV.later V4.d0 BB).rd
  have rd3 := (RowV.later V4.d1 BB).rd
  rw [l1] at rd2
  rw [l2] at rd3
  clear SI V4 b4 I3 l1 l2 l3 l4
  go_upto_region 8 with fail
  generalize w4.alloc (.cells (SD x0 fs.length y0 x1 ss.length y1 x2 fs.length y2 x3 ss.length y3 false).toArray 30) = w5 at *
  obtain ⟨P, hP⟩ : ∃ P, w4.heap.size = P := ⟨_, rfl⟩
  rw [hP] at BK ⊢
  have q2 := BK.cell 2 _ rfl
  have q3 := BK.cell 3 _ rfl
  have q4 := BK.cell 4 _ rfl
  have E1 : Hid (Calls _ _ _ _ _) := EQ.out w5 _ _ fs (by omega) rd2 (RF.out _ I5.bel)
  have E2 : Hid (∀ n, Calls _ _ _ _ _) := fun n => EQ.out (w5.drewN n) _ _ ss (by omega) (Rd.drewN rd3 n) (Rd.drewN (RS.out _ I5.bel) n)
  have IH : Hid (DkIn w R S3 (Dk.load fs ss) w5) := I5
  clear hP BB BK rd2 rd3 I5 EQ RF RS
  go_wp2_with fail
  refine E1.out.mono ?_
  rintro e w6 ⟨rfl, n6, rfl⟩
  go_wp2_with fail
  refine (E2.out _).mono ?_
  rintro e w7 ⟨rfl, n7, rfl⟩
  have I7 : DkIn w R S3 (Dk.load fs ss) ((w5.drewN n6).drewN n7) := (IH.out.drewN n6).drewN n7
  have I8 : Hid (∀ n, DkIn w R S3 (Dk.load fs ss) (w5.drewN n)) := fun n => IH.out.drewN n
  clear E1 E2 IH
  go_wp2_with fail
  go_loopw [9] (fun vk wr => ∃ (k : Nat) (S : Nat → Prop) (t : Dk), vk = .int .i64 (k : Int) ∧ k ≤ n1 ∧ DkIn w R S t wr ∧ Hid (t.Inv ∧ 0 ≤ t.wr ∧ t.wr ≤ (k : Int))) (fun vk _ => n1 - (intOf vk).toNat)
  case atStart => exact ⟨0, S3, _, rfl, by omega, (by first | exact I7 | exact I8.out _), ⟨LI, by omega, by omega⟩⟩
  case round =>
    clear I7 I8
    obtain ⟨k, S, t, rfl, hk, Ik, inv⟩ := hrel
    by_cases hlt : (k : Int) < (n1 : Int)
    · obtain ⟨o, g, off, x, c, rfl, hol, hc⟩ := O1.out k (by omega)
      obtain ⟨e0, e1, e2, e3, e4, e5, _⟩ := hc wr Ik.bel
      have D1 : Hid (Calls _ _ _ _ _) := SV.out R S t wr o x c (by have := inv.out.2; omega) inv.out.1 Ik hol (fun w' h => (hc w' h).2.2.2.2.2.2)
      have V1 : Hid ((t.done o).1.Inv ∧ 0 ≤ (t.done o).1.wr ∧ (t.done o).1.wr ≤ ((k + 1 : Nat) : Int)) := ⟨done_inv Ik.at_.1 inv.out.1 o, by have := (done_wr t o).1; have := inv.out.2; omega, by have := (done_wr t o).2; have := inv.out.2; omega⟩
      clear hc Ik inv
      go_wp2_with fail
      refine D1.out.mono ?_
      rintro e w8 ⟨rfl, S8, I8⟩
      clear e0 e1 e2 e3 e4 e5 D1
      go_wp2_with fail
      go_roundw
      case rel => exact ⟨k + 1, S8, _, by go_num, by omega, I8, V1⟩
      case measure => simp [intOf]; omega
    · have FIN := Ik.bel
      clear Ik inv SV O1
      go_wp2_with fail
      go_ret
      exact ⟨rfl, FIN⟩
end Go.Proofs.Ytabedehmlpfjaaa
