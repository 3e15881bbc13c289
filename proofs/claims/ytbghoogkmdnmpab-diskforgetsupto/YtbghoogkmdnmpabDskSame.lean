/-
  Ours: same: two disks answer a step alike.
-/
import Derived.Test.YtbghoogkmdnmpabDskPure
namespace Go.Proofs.Ytbghoogkmdnmpab
open Go.RowKit

/-- Two disks that differ in the number of writes alone. -/
def TwoD (w0 : World) (R1 R2 : Nat) (m : Int) (t : Dk) (w : World) : Prop := ∃ S1 S2, DkIn w0 R1 S1 (t.sh m) w ∧ DkIn w0 R2 S2 t w ∧ ∀ g, S1 g → ¬ S2 g
theorem TwoD.below {w0 : World} {R1 R2 : Nat} {m : Int} {t : Dk} {w w' : World} (h : TwoD w0 R1 R2 m t w) (hb : Below w.heap.size w w') : TwoD w0 R1 R2 m t w' := by
  obtain ⟨S1, S2, h1, h2, h3⟩ := h
  exact ⟨S1, S2, h1.below hb, h2.below hb, h3⟩
theorem TwoD.bel {w0 : World} {R1 R2 : Nat} {m : Int} {t : Dk} {w : World} (h : TwoD w0 R1 R2 m t w) : Below w0.heap.size w0 w := by
  obtain ⟨S1, S2, h1, _, _⟩ := h; exact h1.bel

abbrev OPC (k : Int) (ot : Bool) (f a b : Int) (x : Option Addr) (n c : Nat) : Array Value := #[.int .i64 k, .bool ot, .int .i64 f, .int .i64 a, .int .i64 b, .slice x n c]

set_option maxRecDepth 20000 in
set_option maxHeartbeats 2000000 in
theorem dsame_read (w0 : World) (R1 R2 : Nat) (m : Int) (t : Dk) (w : World) (h : TwoD w0 R1 R2 m t w) (f a b : Int) (ot : Bool) (x : Option Addr) (n c : Nat) :
    Calls Try.prog 24 #[.pointer (some ⟨R1, 0, none⟩), .pointer (some ⟨R2, 0, none⟩), .agg (OPC 5 ot f a b x n c), .int .i64 m] w fun e w' => e = .returned (.bool true) ∧ TwoD w0 R1 R2 m t w' := by
  have BA := below_alloc w (.cells (OPC 5 ot f a b x n c) 41)
  have B1 := Blk.new 41 (OPC 5 ot f a b x n c).toList w
  have H := h.below BA
  have TD : Hid (∀ w', Below w.heap.size w w' → TwoD w0 R1 R2 m t w') := fun w' hb => h.below hb
  obtain ⟨S1, S2, h1, h2, h3⟩ := h
  have RA : Hid (∀ w', Below w.heap.size w w' → Calls Try.prog 28 #[.pointer (some ⟨R1, 0, none⟩), .int .i64 f] w' (NewE w' (t.read f))) := fun w' hb => read_at R1 S1 (t.sh m) w' f (h1.at_.below hb)
  have RB : Hid (∀ w', Below w.heap.size w w' → Calls Try.prog 28 #[.pointer (some ⟨R2, 0, none⟩), .int .i64 f] w' (NewE w' (t.read f))) := fun w' hb => read_at R2 S2 t w' f (h2.at_.below hb)
  have hl : (t.read f).1.length ≤ 16777216 := by
    have ok := h2.at_.1
    unfold Dk.read Dk.fb
    split
    · simp
    · simp only; split
      · exact ok.l0
      · exact ok.l1
  generalize t.read f = r at *
  obtain ⟨bs, er⟩ := r
  simp only at hl
  have EQ : Hid (∀ va vb w', RdB w' va bs → RdB w' vb bs → Calls Try.prog 17 #[va, vb] w' fun e w'' => e = .returned (.bool true) ∧ ∃ n, w'' = w'.drewN n) := fun va vb w' ha hb => by
    have := equal_at bs bs va vb w' (by omega) ha hb
    rw [decide_eq_true rfl] at this; exact this
  have ee : (er == er) = true := by simp
  clear h1 h2 h3 H
  go_enter Try.func24, Try.ntmps24
  go_wp2_with fail
  refine (RA.out _ BA).mono ?_
  rintro e w2 ⟨a2, c2, rfl, r2, b2⟩
  simp only at r2 ⊢
  have B2 := below_trans BA b2
  have x2 := r2.rd
  have O2 := B1.below b2
  obtain ⟨Q, hQ⟩ : ∃ Q, w.heap.size = Q := ⟨_, rfl⟩
  rw [hQ] at O2 ⊢
  have cf := O2.cell 2 _ rfl
  have hQ' : Hid (w.heap.size = Q) := hQ
  clear r2 b2 B1 O2 hQ BA
  go_wp2_with fail
  refine (RB.out _ B2).mono ?_
  rintro e w3 ⟨a3, c3, rfl, r3, b3⟩
  simp only at r3 ⊢
  have B3 := below_trans B2 b3
  have x2' := Rd.later x2 b3
  have x3 := r3.rd
  clear r3 b3 B2 x2 cf
  go_wp2_with fail
  refine (EQ.out _ _ _ x2' x3).mono ?_
  rintro e w4 ⟨rfl, n4, rfl⟩
  have FIN : Hid (TwoD w0 R1 R2 m t (w3.drewN n4)) := TD.out _ (below_drewN B3 n4)
  clear x2' x3 B3 TD
  go_wp2_with fail
  go_ret
  exact ⟨rfl, FIN.out⟩
set_option maxRecDepth 20000 in
set_option maxHeartbeats 2000000 in
theorem dsame_dur (w0 : World) (R1 R2 : Nat) (m : Int) (t : Dk) (w : World) (h : TwoD w0 R1 R2 m t w) (f a b : Int) (ot : Bool) (x : Option Addr) (n c : Nat) :
    Calls Try.prog 24 #[.pointer (some ⟨R1, 0, none⟩), .pointer (some ⟨R2, 0, none⟩), .agg (OPC 6 ot f a b x n c), .int .i64 m] w fun e w' => e = .returned (.bool true) ∧ TwoD w0 R1 R2 m t w' := by
  have BA := below_alloc w (.cells (OPC 6 ot f a b x n c) 41)
  have B1 := Blk.new 41 (OPC 6 ot f a b x n c).toList w
  have H := h.below BA
  have TD : Hid (∀ w', Below w.heap.size w w' → TwoD w0 R1 R2 m t w') := fun w' hb => h.below hb
  obtain ⟨S1, S2, h1, h2, h3⟩ := h
  have RA : Hid (∀ w', Below w.heap.size w w' → Calls Try.prog 14 #[.pointer (some ⟨R1, 0, none⟩), .int .i64 f] w' (NewE w' (t.durable f))) := fun w' hb => durable_at R1 S1 (t.sh m) w' f (h1.at_.below hb)
  have RB : Hid (∀ w', Below w.heap.size w w' → Calls Try.prog 14 #[.pointer (some ⟨R2, 0, none⟩), .int .i64 f] w' (NewE w' (t.durable f))) := fun w' hb => durable_at R2 S2 t w' f (h2.at_.below hb)
  have hl : (t.durable f).1.length ≤ 16777216 := by
    have ok := h2.at_.1
    unfold Dk.durable Dk.fb
    have := ok.l0
    have := ok.l1
    split
    · simp only [List.length_take]; split <;> omega
    · simp
  generalize t.durable f = r at *
  obtain ⟨bs, er⟩ := r
  simp only at hl
  have EQ : Hid (∀ va vb w', RdB w' va bs → RdB w' vb bs → Calls Try.prog 17 #[va, vb] w' fun e w'' => e = .returned (.bool true) ∧ ∃ n, w'' = w'.drewN n) := fun va vb w' ha hb => by
    have := equal_at bs bs va vb w' (by omega) ha hb
    rw [decide_eq_true rfl] at this; exact this
  have ee : (er == er) = true := by simp
  clear h1 h2 h3 H
  go_enter Try.func24, Try.ntmps24
  go_wp2_with fail
  refine (RA.out _ BA).mono ?_
  rintro e w2 ⟨a2, c2, rfl, r2, b2⟩
  simp only at r2 ⊢
  have B2 := below_trans BA b2
  have x2 := r2.rd
  have O2 := B1.below b2
  obtain ⟨Q, hQ⟩ : ∃ Q, w.heap.size = Q := ⟨_, rfl⟩
  rw [hQ] at O2 ⊢
  have cf := O2.cell 2 _ rfl
  have hQ' : Hid (w.heap.size = Q) := hQ
  clear r2 b2 B1 O2 hQ BA
  go_wp2_with fail
  refine (RB.out _ B2).mono ?_
  rintro e w3 ⟨a3, c3, rfl, r3, b3⟩
  simp only at r3 ⊢
  have B3 := below_trans B2 b3
  have x2' := Rd.later x2 b3
  have x3 := r3.rd
  clear r3 b3 B2 x2 cf
  go_wp2_with fail
  refine (EQ.out _ _ _ x2' x3).mono ?_
  rintro e w4 ⟨rfl, n4, rfl⟩
  have FIN : Hid (TwoD w0 R1 R2 m t (w3.drewN n4)) := TD.out _ (below_drewN B3 n4)
  clear x2' x3 B3 TD
  go_wp2_with fail
  go_ret
  exact ⟨rfl, FIN.out⟩

set_option maxRecDepth 20000 in
set_option maxHeartbeats 2000000 in
theorem dsame_down (w0 : World) (R1 R2 : Nat) (m : Int) (t : Dk) (w : World) (h : TwoD w0 R1 R2 m t w) (f a b : Int) (ot : Bool) (x : Option Addr) (n c : Nat) :
    Calls Try.prog 24 #[.pointer (some ⟨R1, 0, none⟩), .pointer (some ⟨R2, 0, none⟩), .agg (OPC 10 ot f a b x n c), .int .i64 m] w fun e w' => e = .returned (.bool true) ∧ TwoD w0 R1 R2 m t w' := by
  have BA := below_alloc w (.cells (OPC 10 ot f a b x n c) 41)
  have FIN : Hid (TwoD w0 R1 R2 m t (w.alloc (.cells (OPC 10 ot f a b x n c) 41))) := h.below BA
  obtain ⟨S1, S2, h1, h2, h3⟩ := h
  have RA : Hid (Calls Try.prog 15 #[.pointer (some ⟨R1, 0, none⟩)] _ fun e w'' => e = .returned (.bool t.dn) ∧ w'' = _) := down_at R1 S1 (t.sh m) _ (h1.at_.below BA)
  have RB : Hid (Calls Try.prog 15 #[.pointer (some ⟨R2, 0, none⟩)] _ fun e w'' => e = .returned (.bool t.dn) ∧ w'' = _) := down_at R2 S2 t _ (h2.at_.below BA)
  generalize t.dn = dn at *
  have ee : (dn == dn) = true := by simp
  clear h1 h2 h3 BA
  go_enter Try.func24, Try.ntmps24
  go_wp2_with fail
  refine RA.out.mono ?_
  rintro e w2 ⟨rfl, e2⟩
  subst e2
  go_wp2_with fail
  refine RB.out.mono ?_
  rintro e w3 ⟨rfl, e3⟩
  subst e3
  go_wp2_with fail
  go_ret
  exact ⟨rfl, FIN.out⟩

set_option maxRecDepth 20000 in
set_option maxHeartbeats 2000000 in
theorem dsame_wr (w0 : World) (R1 R2 : Nat) (m : Int) (t : Dk) (w : World) (hm : 0 ≤ m ∧ 0 ≤ t.wr ∧ t.wr + m < 4611686018427387904) (h : TwoD w0 R1 R2 m t w) (f a b : Int) (ot : Bool) (x : Option Addr) (n c : Nat) :
    Calls Try.prog 24 #[.pointer (some ⟨R1, 0, none⟩), .pointer (some ⟨R2, 0, none⟩), .agg (OPC 11 ot f a b x n c), .int .i64 m] w fun e w' => e = .returned (.bool true) ∧ TwoD w0 R1 R2 m t w' := by
  have BA := below_alloc w (.cells (OPC 11 ot f a b x n c) 41)
  have FIN : Hid (TwoD w0 R1 R2 m t (w.alloc (.cells (OPC 11 ot f a b x n c) 41))) := h.below BA
  obtain ⟨S1, S2, h1, h2, h3⟩ := h
  have RA : Hid (Calls Try.prog 16 #[.pointer (some ⟨R1, 0, none⟩)] _ fun e w'' => e = .returned (.int .i64 (t.wr + m)) ∧ w'' = _) := writes_at R1 S1 (t.sh m) _ (h1.at_.below BA)
  have RB : Hid (Calls Try.prog 16 #[.pointer (some ⟨R2, 0, none⟩)] _ fun e w'' => e = .returned (.int .i64 t.wr) ∧ w'' = _) := writes_at R2 S2 t _ (h2.at_.below BA)
  generalize t.wr = wn at *
  have e1 : IntKind.i64.wrap (wn + m - m) = wn := by rw [IntKind.wrap_i64]; omega
  have e2 : wn + m - m = wn := by omega
  have ee : (wn == wn) = true := by simp
  clear h1 h2 h3 BA
  go_enter Try.func24, Try.ntmps24
  go_wp2_with fail
  refine RA.out.mono ?_
  rintro e w2 ⟨rfl, e2⟩
  subst e2
  go_wp2_with fail
  refine RB.out.mono ?_
  rintro e w3 ⟨rfl, e3⟩
  subst e3
  go_wp2_with fail
  go_ret
  exact ⟨rfl, FIN.out⟩

set_option maxRecDepth 20000 in
set_option maxHeartbeats 2000000 in
theorem dsame_done (w0 : World) (R1 R2 : Nat) (m : Int) (t : Dk) (w : World) (hm : 0 ≤ m ∧ 0 ≤ t.wr ∧ t.wr + m < 4611686018427387904) (h : TwoD w0 R1 R2 m t w) (k f a b : Int) (ot : Bool) (ds : List Nat) (x : Option Addr) (c : Nat) (hl : ds.length ≤ 1048576) (hd : ∀ w', Below w0.heap.size w0 w' → RdB w' (.slice x ds.length c) ds)
    (hk : (k == 5) = false ∧ (k == 6) = false ∧ (k == 10) = false ∧ (k == 11) = false) :
    Calls Try.prog 24 #[.pointer (some ⟨R1, 0, none⟩), .pointer (some ⟨R2, 0, none⟩), .agg (OPC k ot f a b x ds.length c), .int .i64 m] w fun e w' => e = .returned (.bool true) ∧ TwoD w0 R1 R2 m (t.done ⟨k, ot, f, a, b, ds⟩).1 w' := by
  have BA := below_alloc w (.cells (OPC k ot f a b x ds.length c) 41)
  have B1 := Blk.new 41 (OPC k ot f a b x ds.length c).toList w
  obtain ⟨k1, k2, k3, k4⟩ := hk
  obtain ⟨S1, S2, h1', h2', h3⟩ := h
  have NQ : Hid (¬ S1 w.heap.size) := fun hs => by have := h1'.at_.size _ hs; omega
  have h1 := h1'.below BA
  have h2 := h2'.below BA
  clear h1' h2'
  have DA : Hid (Calls Try.prog 19 #[.pointer (some ⟨R1, 0, none⟩), .agg (OPC k ot f a b x ds.length c)] (w.alloc (.cells (OPC k ot f a b x ds.length c) 41)) fun e w' => e = .returned (.int .i64 (t.done ⟨k, ot, f, a, b, ds⟩).2) ∧ DkPost R1 S1 (w.alloc (.cells (OPC k ot f a b x ds.length c) 41)) ((t.done ⟨k, ot, f, a, b, ds⟩).1.sh m) w') := by
    have := done_at R1 S1 (t.sh m) _ (by show 0 ≤ t.wr + m ∧ t.wr + m < _; omega) h1.at_ ⟨k, ot, f, a, b, ds⟩ x c hl (hd _ h1.bel)
    rw [done_sh] at this
    exact this
  have DB : Hid (∀ w' S, DkIn w0 R2 S t w' → Calls Try.prog 19 #[.pointer (some ⟨R2, 0, none⟩), .agg (OPC k ot f a b x ds.length c)] w' fun e w'' => e = .returned (.int .i64 (t.done ⟨k, ot, f, a, b, ds⟩).2) ∧ DkPost R2 S w' (t.done ⟨k, ot, f, a, b, ds⟩).1 w'') := fun w' S h => done_at R2 S t w' (by omega) h.at_ ⟨k, ot, f, a, b, ds⟩ x c hl (hd _ h.bel)
  generalize (t.done ⟨k, ot, f, a, b, ds⟩).2 = er at *
  generalize (t.done ⟨k, ot, f, a, b, ds⟩).1 = t' at *
  have ee : (er == er) = true := by simp
  clear hd
  go_enter Try.func24, Try.ntmps24
  go_wp2_with fail
  generalize w.alloc (.cells (OPC k ot f a b x ds.length c) 41) = W0 at *
  obtain ⟨Q, hQ⟩ : ∃ Q, w.heap.size = Q := ⟨_, rfl⟩
  rw [hQ] at B1 NQ ⊢
  clear hQ BA
  refine DA.out.mono ?_
  rintro e w2 ⟨rfl, p2⟩
  obtain ⟨S1', I1, s1, k1⟩ := h1.post p2
  have O2 := B1.kp k1 NQ.out
  have I2 : DkIn w0 R2 S2 t w2 := ⟨h2.at_.kp k1 (fun g hg hs => h3 g hs hg), h2.new, I1.bel⟩
  have AP : Hid (∀ g, S1' g → ¬ S2 g) := fun g hg hs => by
    rcases s1 g hg with h | h
    · exact h3 g h hs
    · have := h2.at_.size g hs; omega
  have c0 := O2.cell 0 _ rfl
  have c1 := O2.cell 1 _ rfl
  have c2 := O2.cell 2 _ rfl
  have c3 := O2.cell 3 _ rfl
  have c4 := O2.cell 4 _ rfl
  have c5 := O2.cell 5 _ rfl
  have DB2 : Hid (Calls _ _ _ _ _) := DB.out w2 S2 I2
  have I1h : Hid (DkIn w0 R1 S1' (t'.sh m) w2) := I1
  have I2h : Hid (DkIn w0 R2 S2 t w2) := I2
  clear h1 h2 h3 p2 s1 k1 O2 B1 DA DB I1 I2
  go_wp2_with fail
  refine DB2.out.mono ?_
  rintro e w3 ⟨rfl, p3⟩
  obtain ⟨S2', J2, s2, k2⟩ := I2h.out.post p3
  have J1 : DkIn w0 R1 S1' (t'.sh m) w3 := ⟨I1h.out.at_.kp k2 (fun g hg hs => AP.out g hg hs), I1h.out.new, J2.bel⟩
  have FIN : Hid (TwoD w0 R1 R2 m t' w3) := ⟨S1', S2', J1, J2, fun g hg hs => by
    rcases s2 g hs with h | h
    · exact AP.out g hg h
    · have := I1h.out.at_.size g hg; omega⟩
  clear p3 J1 J2 s2 k2 c0 c1 c2 c3 c4 c5 DB2
  go_wp2_with fail
  go_ret
  exact ⟨rfl, FIN.out⟩

/-- A step leaves two disks alike, and answers true. -/
theorem dsame_at (w0 : World) (R1 R2 : Nat) (m : Int) (t : Dk) (w : World) (hm : 0 ≤ m ∧ 0 ≤ t.wr ∧ t.wr + m < 4611686018427387904) (h : TwoD w0 R1 R2 m t w) (o : OpD) (x : Option Addr) (c : Nat) (hl : o.data.length ≤ 1048576) (hd : ∀ w', Below w0.heap.size w0 w' → RdB w' (.slice x o.data.length c) o.data) :
    Calls Try.prog 24 #[.pointer (some ⟨R1, 0, none⟩), .pointer (some ⟨R2, 0, none⟩), opd o x c, .int .i64 m] w fun e w' => e = .returned (.bool true) ∧ ∃ t', TwoD w0 R1 R2 m t' w' ∧ t.wr ≤ t'.wr ∧ t'.wr ≤ t.wr + 1 := by
  obtain ⟨k, ot, f, a, b, ds⟩ := o
  have st : ∀ {e : Ending} {w' : World}, e = .returned (.bool true) ∧ TwoD w0 R1 R2 m t w' → e = .returned (.bool true) ∧ ∃ t', TwoD w0 R1 R2 m t' w' ∧ t.wr ≤ t'.wr ∧ t'.wr ≤ t.wr + 1 := fun h => ⟨h.1, t, h.2, by omega, by omega⟩
  by_cases h5 : k = 5
  · subst h5; exact (dsame_read w0 R1 R2 m t w h f a b ot x _ c).mono fun e w' h => st h
  by_cases h6 : k = 6
  · subst h6; exact (dsame_dur w0 R1 R2 m t w h f a b ot x _ c).mono fun e w' h => st h
  by_cases h10 : k = 10
  · subst h10; exact (dsame_down w0 R1 R2 m t w h f a b ot x _ c).mono fun e w' h => st h
  by_cases h11 : k = 11
  · subst h11; exact (dsame_wr w0 R1 R2 m t w hm h f a b ot x _ c).mono fun e w' h => st h
  refine (dsame_done w0 R1 R2 m t w hm h k f a b ot ds x c hl hd ⟨by simpa using h5, by simpa using h6, by simpa using h10, by simpa using h11⟩).mono fun e w' h => ⟨h.1, _, h.2, ?_, ?_⟩
  · exact (done_wr t _).1
  · exact (done_wr t _).2
end Go.Proofs.Ytbghoogkmdnmpab
