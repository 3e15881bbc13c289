/-
  Ours: survives: the walk.
-/
import Derived.Test.YtabedehmlpfjaaaDskSurv
namespace Go.Proofs.Ytabedehmlpfjaaa
open Go.RowKit

theorem DkIn.drewN {w0 : World} {R : Nat} {S : Nat → Prop} {t : Dk} {w : World} (h : DkIn w0 R S t w) (n : Nat) : DkIn w0 R S t (w.drewN n) := h.below (below_drewN (Below.refl _ _) n)

set_option maxRecDepth 100000 in
set_option maxHeartbeats 4000000 in
theorem survives_at (w0 : World) (R : Nat) (S : Nat → Prop) (t : Dk) (w : World) (hI : DkIn w0 R S t w) (inv : t.Inv) (hw : 0 ≤ t.wr ∧ t.wr < 4611686018427387904) (o : OpD) (x : Option Addr) (c : Nat) (hl : o.data.length ≤ 1048576)
    (hd : ∀ w', Below w0.heap.size w0 w' → RdB w' (.slice x o.data.length c) o.data) :
    Calls Try.prog 14 #[.pointer (some ⟨R, 0, none⟩), opd o x c] w fun e w' => e = .returned (.bool true) ∧ ∃ S', DkIn w0 R S' (t.done o).1 w' := by
  have SUR := sur_done hI.at_.1 inv o
  obtain ⟨e, he⟩ : ∃ e, (t.done o).2 = e := ⟨_, rfl⟩
  obtain ⟨t', ht'⟩ : ∃ t', (t.done o).1 = t' := ⟨_, rfl⟩
  rw [he, ht'] at SUR
  rw [ht']
  have HE : Hid ((t.done o).2 = e ∧ (t.done o).1 = t') := ⟨he, ht'⟩
  clear he ht'
  have okT := hI.at_.1
  have EQ : Hid (∀ w' (va vb : Value) (X Y : List Nat), X.length ≤ 1000000000 → RdB w' va X → RdB w' vb Y → X = Y → Calls Try.prog 13 #[va, vb] w' fun e w'' => e = .returned (.bool true) ∧ ∃ n, w'' = w'.drewN n) := fun w' va vb X Y hl h1 h2 he => by
    subst he
    have := equal_at X X va vb w' (by omega) h1 h2
    simpa using this
  have HD : Hid (∀ w', Below w0.heap.size w0 w' → RdB w' (.slice x o.data.length c) o.data) := hd
  have BA := below_alloc w (.cells (OD o.kind o.other o.file o.a o.b x o.data.length c).toArray 35)
  have B1 := Blk.new 35 (OD o.kind o.other o.file o.a o.b x o.data.length c) w
  have I1 := hI.below BA
  have SLT : ∀ g, S g → g < w.heap.size := hI.at_.size
  have SI1 : Hid (Calls _ _ _ _ _) := side_at R S t _ I1.at_
  unfold opd
  clear hI hd inv
  go_enter Try.func14, Try.ntmps14
  go_upto_region 1 with fail
  have sz1 : w.heap.size + 1 = (w.alloc (.cells (OD o.kind o.other o.file o.a o.b x o.data.length c).toArray 35)).heap.size := by simp
  generalize w.alloc (.cells (OD o.kind o.other o.file o.a o.b x o.data.length c).toArray 35) = W1 at *
  obtain ⟨Q, hQ⟩ : ∃ Q, w.heap.size = Q := ⟨_, rfl⟩
  rw [hQ] at B1 SLT sz1 ⊢
  clear hQ BA
  go_wp2_with fail
  refine SI1.out.mono ?_
  rintro e w2 ⟨⟨a0, c0, a1, c1, a2, c2, a3, c3, rfl, V2⟩, b2⟩
  have B1 := B1.below b2
  have BB := below_alloc w2 (.cells (SD a0 (t.read 0).1.length c0 a1 (t.read 1).1.length c1 a2 (t.durable 0).1.length c2 a3 (t.durable 1).1.length c3 t.dn).toArray 30)
  have B2 := Blk.new 30 (SD a0 (t.read 0).1.length c0 a1 (t.read 1).1.length c1 a2 (t.durable 0).1.length c2 a3 (t.durable 1).1.length c3 t.dn) w2
  have B1 := B1.below BB
  have I3 := (I1.below b2).below BB
  have r0 := RowV.later V2.r0 BB
  have r1 := RowV.later V2.r1 BB
  have y0 := RowV.later V2.d0 BB
  have y1 := RowV.later V2.d1 BB
  have sz2 := b2.size
  clear SI1 I1 V2 b2
  go_upto_region 2 with fail
  generalize w2.alloc (.cells (SD a0 (t.read 0).1.length c0 a1 (t.read 1).1.length c1 a2 (t.durable 0).1.length c2 a3 (t.durable 1).1.length c3 t.dn).toArray 30) = W3 at *
  obtain ⟨P, hP⟩ : ∃ P, w2.heap.size = P := ⟨_, rfl⟩
  rw [hP] at B2 sz2 ⊢
  clear hP BB
  have DN : Hid (Calls _ _ _ _ _) := done_at R S t W3 hw I3.at_ o x c hl (HD.out W3 I3.bel)
  unfold opd at DN
  rw [HE.out.1, HE.out.2] at DN
  have p0 := B1.cell 0 _ rfl
  have p1 := B1.cell 1 _ rfl
  have p2 := B1.cell 2 _ rfl
  have p3 := B1.cell 3 _ rfl
  have p4 := B1.cell 4 _ rfl
  have p5 := B1.cell 5 _ rfl
  clear HE hw
  go_wp2_with fail
  refine DN.out.mono ?_
  rintro e4 w4 ⟨rfl, q4⟩
  obtain ⟨S4, I4, n4, k4⟩ := I3.post q4
  have nS : ∀ g, Q ≤ g → ¬ S g := fun g hg hs => by have := SLT g hs; omega
  have B1 := B1.kp k4 (nS _ (Nat.le_refl _))
  have B2 := B2.kp k4 (nS _ (by omega))
  have r0 := r0.kp k4 (fun g hg => nS g (by have := r0.block_ge hg; omega))
  have r1 := r1.kp k4 (fun g hg => nS g (by have := r1.block_ge hg; omega))
  have y0 := y0.kp k4 (fun g hg => nS g (by have := y0.block_ge hg; omega))
  have y1 := y1.kp k4 (fun g hg => nS g (by have := y1.block_ge hg; omega))
  have SI2 : Hid (Calls _ _ _ _ _) := side_at R S4 t' w4 I4.at_
  have okT' := I4.at_.1
  clear DN q4 I3 n4 k4 nS SLT p0 p1 p2 p3 p4 p5
  go_wp2_with fail
  refine SI2.out.mono ?_
  rintro e5 w5 ⟨⟨b0, d0, b1, d1, b2, d2, b3, d3, rfl, V5⟩, b5⟩
  have BC := below_alloc w5 (.cells (SD b0 (t'.read 0).1.length d0 b1 (t'.read 1).1.length d1 b2 (t'.durable 0).1.length d2 b3 (t'.durable 1).1.length d3 t'.dn).toArray 30)
  have B3 := Blk.new 30 (SD b0 (t'.read 0).1.length d0 b1 (t'.read 1).1.length d1 b2 (t'.durable 0).1.length d2 b3 (t'.durable 1).1.length d3 t'.dn) w5
  have B1 := (B1.below b5).below BC
  have B2 := (B2.below b5).below BC
  have I6 := (I4.below b5).below BC
  have SID : Hid (Sides _ t t' a0 c0 a1 c1 a2 c2 a3 c3 b0 d0 b1 d1 b2 d2 b3 d3) := ⟨(RowV.later (RowV.later r0 b5) BC).rd, (RowV.later (RowV.later r1 b5) BC).rd, (RowV.later (RowV.later y0 b5) BC).rd, (RowV.later (RowV.later y1 b5) BC).rd, (RowV.later V5.r0 BC).rd, (RowV.later V5.r1 BC).rd, (RowV.later V5.d0 BC).rd, (RowV.later V5.d1 BC).rd, okT, okT'⟩
  clear SI2 I4 V5 b5 r0 r1 y0 y1
  go_upto_region 4 with fail
  generalize w5.alloc (.cells (SD b0 (t'.read 0).1.length d0 b1 (t'.read 1).1.length d1 b2 (t'.durable 0).1.length d2 b3 (t'.durable 1).1.length d3 t'.dn).toArray 30) = W6 at *
  obtain ⟨P2, hP2⟩ : ∃ P, w5.heap.size = P := ⟨_, rfl⟩
  rw [hP2] at B3 ⊢
  have OPR : Hid (RdB W6 (.slice x o.data.length c) o.data) := HD.out W6 I6.bel
  have FIN : Hid (DkIn w0 R S4 t' W6) := I6
  clear hP2 BC I6 HD okT okT'
  have s0 := B2.cell 0 _ rfl
  have s1 := B2.cell 1 _ rfl
  have s2 := B2.cell 2 _ rfl
  have s3 := B2.cell 3 _ rfl
  have s4 := B2.cell 4 _ rfl
  have q0 := B3.cell 0 _ rfl
  have q1 := B3.cell 1 _ rfl
  have q2 := B3.cell 2 _ rfl
  have q3 := B3.cell 3 _ rfl
  have q4 := B3.cell 4 _ rfl
  have p0 := B1.cell 0 _ rfl
  have p1 := B1.cell 1 _ rfl
  have p2 := B1.cell 2 _ rfl
  have p3 := B1.cell 3 _ rfl
  have p4 := B1.cell 4 _ rfl
  have p5 := B1.cell 5 _ rfl
  rcases SUR with h | h | h
  · have C : Hid (Calls _ _ _ _ _) := SID.out.fell h x c hl OPR.out
    obtain ⟨e1, e2, e3, _⟩ := h
    unfold opd at C
    rw [e1] at s4 C
    rw [e2] at q4 C
    subst e3
    clear EQ SID OPR
    go_wp2_with fail
    refine C.out.mono ?_
    rintro e w7 ⟨rfl, b7⟩
    have F7 : Hid (DkIn w0 R S4 t' w7) := FIN.out.below b7
    clear b7 C B1 B2 B3 s0 s1 s2 s3 s4 q0 q1 q2 q3 q4 p0 p1 p2 p3 p4 p5
    go_wp2_with fail
    go_ret
    exact ⟨rfl, S4, F7.out⟩
  · have C : Hid (Calls _ _ _ _ _) := SID.out.wrote h x c hl OPR.out
    have g1 : decide (1 ≤ o.kind) = true := decide_eq_true h.k.1
    have g2 : decide (o.kind ≤ 4) = true := decide_eq_true h.k.2
    obtain ⟨e1, e2, e3, _⟩ := h
    unfold opd at C
    rw [e1] at s4 C
    rw [e2] at q4 C
    subst e3
    clear EQ SID OPR
    go_wp2_with fail
    refine C.out.mono ?_
    rintro e w7 ⟨rfl, b7⟩
    have F7 : Hid (DkIn w0 R S4 t' w7) := FIN.out.below b7
    clear b7 C B1 B2 B3 s0 s1 s2 s3 s4 q0 q1 q2 q3 q4 p0 p1 p2 p3 p4 p5
    go_wp2_with fail
    go_ret
    exact ⟨rfl, S4, F7.out⟩
  · have hdd : (t.dn = false ∧ t'.dn = false) ∨ (t.dn = true ∧ t'.dn = true) ∨ (t.dn = true ∧ t'.dn = false) := by
      cases h1 : t.dn
      · left; exact ⟨rfl, h.dn h1⟩
      · cases h2 : t'.dn
        · right; right; exact ⟨rfl, rfl⟩
        · right; left; exact ⟨rfl, rfl⟩
    have f0 := h.f 0 (.inl rfl)
    have f1 := h.f 1 (.inr rfl)
    have QE : Hid (∀ j n (v1 v2 : Value), ((v1 = .slice a2 (t.durable 0).1.length c2 ∧ v2 = .slice b2 (t'.durable 0).1.length d2) ∨ (v1 = .slice a3 (t.durable 1).1.length c3 ∧ v2 = .slice b3 (t'.durable 1).1.length d3)) ∨
        ((t.dn = false ∧ t'.dn = false) ∧ ((v1 = .slice a0 (t.read 0).1.length c0 ∧ v2 = .slice b0 (t'.read 0).1.length d0) ∨ (v1 = .slice a1 (t.read 1).1.length c1 ∧ v2 = .slice b1 (t'.read 1).1.length d1))) ∨
        ((t.dn = true ∧ t'.dn = false) ∧ ((v1 = .slice b0 (t'.read 0).1.length d0 ∧ v2 = .slice b2 (t'.durable 0).1.length d2) ∨ (v1 = .slice b1 (t'.read 1).1.length d1 ∧ v2 = .slice b3 (t'.durable 1).1.length d3))) →
        Calls Try.prog 13 #[v1, v2] ((W6.drewN j).drewN n) fun e w'' => e = .returned (.bool true) ∧ ∃ m, w'' = ((W6.drewN j).drewN n).drewN m) := fun j n v1 v2 hh => by
      have Z := SID.out
      rcases hh with (⟨rfl, rfl⟩ | ⟨rfl, rfl⟩) | ⟨hu, ⟨rfl, rfl⟩ | ⟨rfl, rfl⟩⟩ | ⟨hu, ⟨rfl, rfl⟩ | ⟨rfl, rfl⟩⟩
      · exact EQ.out _ _ _ _ _ (by have := dur_len Z.ok 0; omega) (Rd.drewN (Rd.drewN Z.y0 j) n) (Rd.drewN (Rd.drewN Z.v0 j) n) (by rw [dur_is (.inl rfl), dur_is (.inl rfl)]; exact f0.1.symm)
      · exact EQ.out _ _ _ _ _ (by have := dur_len Z.ok 1; omega) (Rd.drewN (Rd.drewN Z.y1 j) n) (Rd.drewN (Rd.drewN Z.v1 j) n) (by rw [dur_is (.inr rfl), dur_is (.inr rfl)]; exact f1.1.symm)
      · exact EQ.out _ _ _ _ _ (by have := read_len Z.ok 0; omega) (Rd.drewN (Rd.drewN Z.x0 j) n) (Rd.drewN (Rd.drewN Z.u0 j) n) (by rw [read_up hu.1 (.inl rfl), read_up hu.2 (.inl rfl)]; exact (f0.2.1 hu.1).symm)
      · exact EQ.out _ _ _ _ _ (by have := read_len Z.ok 1; omega) (Rd.drewN (Rd.drewN Z.x1 j) n) (Rd.drewN (Rd.drewN Z.u1 j) n) (by rw [read_up hu.1 (.inr rfl), read_up hu.2 (.inr rfl)]; exact (f1.2.1 hu.1).symm)
      · exact EQ.out _ _ _ _ _ (by have := read_len Z.ok' 0; omega) (Rd.drewN (Rd.drewN Z.u0 j) n) (Rd.drewN (Rd.drewN Z.v0 j) n) (by rw [read_up hu.2 (.inl rfl), dur_is (.inl rfl)]; exact (f0.2.2 hu.1 hu.2).2)
      · exact EQ.out _ _ _ _ _ (by have := read_len Z.ok' 1; omega) (Rd.drewN (Rd.drewN Z.u1 j) n) (Rd.drewN (Rd.drewN Z.v1 j) n) (by rw [read_up hu.2 (.inr rfl), dur_is (.inr rfl)]; exact (f1.2.2 hu.1 hu.2).2)
    have K9 : Hid (t.dn = true ∧ t'.dn = false → o.kind = 9) := fun hu => (f0.2.2 hu.1 hu.2).1
    have he := h.e
    clear EQ SID OPR f0 f1 h
    rcases hdd with hdd | hdd | hdd
    all_goals
      have HDD := hdd
      have HDH : Hid _ := HDD
      rw [hdd.1] at s4
      rw [hdd.2] at q4
      clear hdd HDD
      go_upto_region 6 with fail
      go_cut [42] from 0 to 0 (fun v wx => v = .bool false ∧ wx = W6)
      case first =>
        clear QE HDH K9
        by_cases z : e = 0
        · have ez : (e == 0) = true := by simpa using z
          by_cases g1 : 1 ≤ o.kind
          · have d1 : decide (1 ≤ o.kind) = true := decide_eq_true g1
            have d2 : decide (o.kind ≤ 4) = false := decide_eq_false (fun g2 => he z ⟨g1, g2⟩)
            clear he g1 z
            go_wp2_with fail
            go_meet
            exact ⟨rfl, rfl⟩
          · have d1 : decide (1 ≤ o.kind) = false := decide_eq_false g1
            clear he g1 z
            go_wp2_with fail
            go_meet
            exact ⟨rfl, rfl⟩
        · have ez : (e == 0) = false := beq_eq_false_iff_ne.2 z
          clear he z
          go_wp2_with fail
          go_meet
          exact ⟨rfl, rfl⟩
      case rest =>
      obtain ⟨rfl, hwc⟩ := hcut
      subst hwc
      go_wp2_with fail
      go_loopw [8] (fun vf wr => ∃ f n : Nat, vf = .int .i64 (f : Int) ∧ f ≤ 2 ∧ wr = wc.drewN n) (fun vf _ => 2 - (intOf vf).toNat)
      case atStart => exact ⟨0, 0, rfl, by omega, rfl⟩
      case round =>
        obtain ⟨f, n, rfl, hf, hwn⟩ := hrel
        have QR : Hid (∀ k (v1 v2 : Value), _ → Calls Try.prog 13 #[v1, v2] (wr.drewN k) fun e w'' => e = .returned (.bool true) ∧ ∃ m, w'' = (wr.drewN k).drewN m) := fun k v1 v2 hh => by rw [hwn]; exact QE.out n k v1 v2 hh
        have FR : Hid (DkIn w0 R S4 t' wr) := by rw [hwn]; exact FIN.out.drewN n
        have HN : Hid (∃ n, wr = wc.drewN n) := ⟨n, hwn⟩
        have bn : Below wc.heap.size wc wr := by rw [hwn]; exact below_drewN (Below.refl _ _) n
        have B1r := B1.below bn
        have B2r := B2.below bn
        have B3r := B3.below bn
        clear bn hwn QE FIN B1 B2 B3 s0 s1 s2 s3 q0 q1 q2 q3 p0 p1 p2 p3 p4 p5
        have s0 := B2r.cell 0 _ rfl
        have s1 := B2r.cell 1 _ rfl
        have s2 := B2r.cell 2 _ rfl
        have s3 := B2r.cell 3 _ rfl
        have s4' := B2r.cell 4 _ rfl
        have q0 := B3r.cell 0 _ rfl
        have q1 := B3r.cell 1 _ rfl
        have q2 := B3r.cell 2 _ rfl
        have q3 := B3r.cell 3 _ rfl
        have q4' := B3r.cell 4 _ rfl
        have p0 := B1r.cell 0 _ rfl
        rw [HDH.out.1] at s4'
        rw [HDH.out.2] at q4'
        have HB3 : Hid (Blk Q 35 _ wr ∧ Blk P 30 _ wr ∧ Blk P2 30 _ wr) := ⟨B1r, B2r, B3r⟩
        clear B1r B2r B3r s4 q4
        obtain rfl | rfl | rfl : f = 0 ∨ f = 1 ∨ f = 2 := by omega
        rotate_right
        · go_wp2_with fail
          go_ret
          exact ⟨rfl, S4, FR.out⟩
        all_goals
          go_upto_region 11 with fail
          go_quiet ((go_at_call 13; exact Calls.quiet_of (QR.out _ _ _ (by first | exact .inl (.inl ⟨rfl, rfl⟩) | exact .inl (.inr ⟨rfl, rfl⟩) | exact .inr (.inl ⟨HDH.out, .inl ⟨rfl, rfl⟩⟩) | exact .inr (.inl ⟨HDH.out, .inr ⟨rfl, rfl⟩⟩) | exact .inr (.inr ⟨HDH.out, .inl ⟨rfl, rfl⟩⟩) | exact .inr (.inr ⟨HDH.out, .inr ⟨rfl, rfl⟩⟩)))))
          go_upto_region 13 with fail
          have QZ : Hid (∀ k (v1 v2 : Value), _ → Calls Try.prog 13 #[v1, v2] ((wr.drewN nq).drewN k) fun e w'' => e = .returned (.bool true) ∧ ∃ m, w'' = ((wr.drewN nq).drewN k).drewN m) := fun k v1 v2 hh => by rw [World.drewN_drewN]; exact QR.out (nq + k) v1 v2 hh
          have HN2 : Hid (∃ n, wr.drewN nq = wc.drewN n) := by obtain ⟨n, hn⟩ := HN.out; exact ⟨n + nq, by rw [hn, World.drewN_drewN]⟩
          have bq : Below wr.heap.size wr (wr.drewN nq) := below_drewN (Below.refl _ _) nq
          generalize wr.drewN nq = wz at *
          have s0 := (HB3.out.2.1.below bq).cell 0 _ rfl
          have s1 := (HB3.out.2.1.below bq).cell 1 _ rfl
          have s2 := (HB3.out.2.1.below bq).cell 2 _ rfl
          have s3 := (HB3.out.2.1.below bq).cell 3 _ rfl
          have s4 := (HB3.out.2.1.below bq).cell 4 _ rfl
          have q0 := (HB3.out.2.2.below bq).cell 0 _ rfl
          have q1 := (HB3.out.2.2.below bq).cell 1 _ rfl
          have q2 := (HB3.out.2.2.below bq).cell 2 _ rfl
          have q3 := (HB3.out.2.2.below bq).cell 3 _ rfl
          have q4 := (HB3.out.2.2.below bq).cell 4 _ rfl
          have p0 := (HB3.out.1.below bq).cell 0 _ rfl
          rw [HDH.out.1] at s4
          rw [HDH.out.2] at q4
          have K9B : Hid (t.dn = true ∧ t'.dn = false → (o.kind != 9) = false) := fun hu => by rw [K9.out hu]; rfl
          clear bq
          first
            | (have k9 := K9B.out HDH.out; go_quiet ((go_at_call 13; exact Calls.quiet_of (QZ.out _ _ _ (by first | exact .inl (.inl ⟨rfl, rfl⟩) | exact .inl (.inr ⟨rfl, rfl⟩) | exact .inr (.inl ⟨HDH.out, .inl ⟨rfl, rfl⟩⟩) | exact .inr (.inl ⟨HDH.out, .inr ⟨rfl, rfl⟩⟩) | exact .inr (.inr ⟨HDH.out, .inl ⟨rfl, rfl⟩⟩) | exact .inr (.inr ⟨HDH.out, .inr ⟨rfl, rfl⟩⟩))))))
            | (go_quiet ((go_at_call 13; exact Calls.quiet_of (QZ.out _ _ _ (by first | exact .inl (.inl ⟨rfl, rfl⟩) | exact .inl (.inr ⟨rfl, rfl⟩) | exact .inr (.inl ⟨HDH.out, .inl ⟨rfl, rfl⟩⟩) | exact .inr (.inl ⟨HDH.out, .inr ⟨rfl, rfl⟩⟩) | exact .inr (.inr ⟨HDH.out, .inl ⟨rfl, rfl⟩⟩) | exact .inr (.inr ⟨HDH.out, .inr ⟨rfl, rfl⟩⟩))))))
          go_wp2_with fail
          go_roundw
          case rel => obtain ⟨n, hn⟩ := HN2.out; first | exact ⟨0 + 1, _, by go_num, by omega, by rw [hn, World.drewN_drewN]⟩ | exact ⟨1 + 1, _, by go_num, by omega, by rw [hn, World.drewN_drewN]⟩
          case measure => simp [intOf]
end Go.Proofs.Ytabedehmlpfjaaa
