/-
  Ours: the walk of TimerqMoveIsCancelPut.
-/
import Derived.Test.YtfdehlfhnlgcjaaTqAli
import Derived.Test.YtfdehlfhnlgcjaaTqSrt
namespace Go.Proofs.Ytfdehlfhnlgcjaa
open Go.RowKit TqM

/-- A key of the call's own, in neither queue. -/
def Bx (K : Nat) (x : Ky) (S1 S2 : Nat → Prop) (w : World) : Prop := Blk K 31 (kyL x) w ∧ ¬ S1 K ∧ ¬ S2 K
theorem Bx.below {K : Nat} {x : Ky} {S1 S2 : Nat → Prop} {w w' : World} (h : Bx K x S1 S2 w) (b : Below w.heap.size w w') : Bx K x S1 S2 w' := ⟨h.1.below b, h.2⟩
theorem P2.leftB {w w1 w2 : World} {R1 R2 : Nat} {S1 S2 : Nat → Prop} {L1 L2 L : List (Ky × Int)} (h : P2 w R1 R2 S1 S2 L1 L2 w1) (k : TQ.QPost R1 S1 w1 L w2) : ∃ S, P2 w R1 R2 S S2 L L2 w2 ∧ ∀ K x, Bx K x S1 S2 w1 → Bx K x S S2 w2 := by
  obtain ⟨S, q, hS, kp⟩ := k
  refine ⟨S, ⟨q, h.q2.kp kp (fun g h2 h1 => h.dj g h1 h2), fun g hg h2 => ?_, fun g hg => ?_, h.g2, kp_below h.bw kp h.g1⟩, fun K x hb => ⟨hb.1.kp kp hb.2.1, fun hs => ?_, hb.2.2⟩⟩
  · rcases hS g hg with h1 | h1
    · exact h.dj g h1 h2
    · have := h.q2.s g h2; omega
  · rcases hS g hg with h1 | h1
    · exact h.g1 g h1
    · exact Nat.le_trans h.bw.size h1
  · rcases hS K hs with h1 | h1
    · exact hb.2.1 h1
    · have := hb.1.lt; omega
theorem P2.rightB {w w1 w2 : World} {R1 R2 : Nat} {S1 S2 : Nat → Prop} {L1 L2 L : List (Ky × Int)} (h : P2 w R1 R2 S1 S2 L1 L2 w1) (k : TQ.QPost R2 S2 w1 L w2) : ∃ S, P2 w R1 R2 S1 S L1 L w2 ∧ ∀ K x, Bx K x S1 S2 w1 → Bx K x S1 S w2 := by
  obtain ⟨S, q, hS, kp⟩ := k
  refine ⟨S, ⟨h.q1.kp kp (fun g h1 h2 => h.dj g h1 h2), q, fun g h1 hg => ?_, h.g1, fun g hg => ?_, kp_below h.bw kp h.g2⟩, fun K x hb => ⟨hb.1.kp kp hb.2.2, hb.2.1, fun hs => ?_⟩⟩
  · rcases hS g hg with h2 | h2
    · exact h.dj g h1 h2
    · have := h.q1.s g h1; omega
  · rcases hS g hg with h2 | h2
    · exact h.g2 g h2
    · exact Nat.le_trans h.bw.size h2
  · rcases hS K hs with h1 | h1
    · exact hb.2.2 h1
    · have := hb.1.lt; omega
theorem nodup_rest {L L' : List (Ky × Int)} {k : Ky} {v : Int} (hn : (L.map (·.1)).Nodup) (hp : L.Perm ((k, v) :: L')) : k ∉ L'.map (·.1) ∧ ∀ x ∈ L', x ∈ L := by
  have h := ((hp.map (·.1)).nodup_iff).1 hn
  rw [List.map_cons, List.nodup_cons] at h
  exact ⟨h.1, fun x hx => hp.mem_iff.2 (by simp [hx])⟩

set_option maxRecDepth 100000 in
set_option maxHeartbeats 4000000 in
theorem mcp_any (ks : List Ky) (at' day : Int) (v : Value) (w : World) (ok : ∀ k ∈ ks, k.d ≤ 9223372036854775807) (hday : day ≤ 9223372036854775807) (h : RdK w v ks) : Calls Try.prog 4 #[v, .int .i64 at', .int .i64 day] w fun e w' => e = .returned (.bool true) ∧ Below w.heap.size w w' := by
  have RD : Hid (∀ w', Below w.heap.size w w' → RdK w' v ks) := fun w' hb => h.later hb
  obtain ⟨ao, cap, rfl, hcap, hno, -⟩ := h
  obtain ⟨N, hN⟩ : ∃ N, ks.length = N := ⟨_, rfl⟩
  have HN : Hid (ks.length = N) := hN
  have OK : Hid (∀ k ∈ ks, k.d ≤ 9223372036854775807) := ok
  rw [hN] at hcap RD ⊢
  have FI : Hid (∀ (ks : List Ky) (v : Value) (w : World), ks.length ≤ 1000000 → RdK w v ks → Calls Try.prog 6 #[v] w (NewL w (flT ks ks.length))) := filled_at
  have LE : Hid (∀ R S L w, TQ.QAt R S L w → Calls Try.prog 8 #[.pointer (some ⟨R, 0, none⟩)] w fun e w' => e = .returned (.int .i64 (L.length : Int)) ∧ w' = w) := TQ.len_at
  clear hN ok
  by_cases hout : 300 < N ∨ at' < 0 ∨ (N : Int) ≤ at'
  · have R1 : Hid (RdK (w.alloc (.cells #[.int .i64 2, .int .i64 3, .int .i64 4] 31)) (.slice (some ⟨w.heap.size, 0, none⟩) 1 1) [⟨2, 3, 4⟩] ∧ Below w.heap.size w (w.alloc (.cells #[.int .i64 2, .int .i64 3, .int .i64 4] 31))) := ⟨RdK.one w ⟨2, 3, 4⟩, below_alloc _ _⟩
    have l1 : Hid ((flT [⟨2, 3, 4⟩] 1).length = 1) := rfl
    clear RD
    by_cases h1 : 300 < N
    · have e1 : (300 : Int) < (N : Int) := by omega
      go_enter Try.func4, Try.ntmps4
      go_wp2_with fail
      refine (FI.out [⟨2, 3, 4⟩] _ _ (by decide) R1.out.1).mono ?_
      rintro e w1 ⟨R0, S0, rfl, q0, s0, b0⟩
      have B1 : Hid (TQ.QAt R0 S0 (flT [⟨2, 3, 4⟩] 1) w1 ∧ Below w.heap.size w w1) := ⟨q0, below_trans R1.out.2 b0⟩
      clear q0 s0 b0 R1
      go_wp2_with fail
      refine (LE.out R0 S0 _ w1 B1.out.1).mono ?_
      rintro e w2 ⟨rfl, rfl⟩
      rw [l1.out]
      go_wp2_with fail
      go_ret
      exact ⟨rfl, B1.out.2⟩
    · have e1 : ¬ (300 : Int) < (N : Int) := by omega
      by_cases h2 : at' < 0
      · go_enter Try.func4, Try.ntmps4
        go_wp2_with fail
        refine (FI.out [⟨2, 3, 4⟩] _ _ (by decide) R1.out.1).mono ?_
        rintro e w1 ⟨R0, S0, rfl, q0, s0, b0⟩
        have B1 : Hid (TQ.QAt R0 S0 (flT [⟨2, 3, 4⟩] 1) w1 ∧ Below w.heap.size w w1) := ⟨q0, below_trans R1.out.2 b0⟩
        clear q0 s0 b0 R1
        go_wp2_with fail
        refine (LE.out R0 S0 _ w1 B1.out.1).mono ?_
        rintro e w2 ⟨rfl, rfl⟩
        rw [l1.out]
        go_wp2_with fail
        go_ret
        exact ⟨rfl, B1.out.2⟩
      · have e3 : (N : Int) ≤ at' := by omega
        go_enter Try.func4, Try.ntmps4
        go_wp2_with fail
        refine (FI.out [⟨2, 3, 4⟩] _ _ (by decide) R1.out.1).mono ?_
        rintro e w1 ⟨R0, S0, rfl, q0, s0, b0⟩
        have B1 : Hid (TQ.QAt R0 S0 (flT [⟨2, 3, 4⟩] 1) w1 ∧ Below w.heap.size w w1) := ⟨q0, below_trans R1.out.2 b0⟩
        clear q0 s0 b0 R1
        go_wp2_with fail
        refine (LE.out R0 S0 _ w1 B1.out.1).mono ?_
        rintro e w2 ⟨rfl, rfl⟩
        rw [l1.out]
        go_wp2_with fail
        go_ret
        exact ⟨rfl, B1.out.2⟩
  · have e1 : ¬ (300 : Int) < (N : Int) := by omega
    have e2 : ¬ at' < 0 := by omega
    have e3 : ¬ (N : Int) ≤ at' := by omega
    obtain ⟨j, rfl⟩ : ∃ j : Nat, at' = (j : Int) := ⟨at'.toNat, by omega⟩
    have hjN : j < N := by omega
    have hjN' : (j : Int) < (N : Int) := by omega
    clear hout LE
    have SO := sort_ok
    have AL : Hid (∀ (R1 R2 : Nat) (S1 S2 : Nat → Prop) (L1 L2 : List (Ky × Int)) (w : World), TQ.QAt R1 S1 L1 w → TQ.QAt R2 S2 L2 w → L1.Perm L2 → L1.length ≤ 1000000 → Calls Try.prog 13 #[.pointer (some ⟨R1, 0, none⟩), .pointer (some ⟨R2, 0, none⟩)] w fun e w' => e = .returned (.bool true) ∧ Below w.heap.size w w') := fun R1 R2 S1 S2 L1 L2 w h1 h2 hp hl => alike_yes SO R1 R2 S1 S2 L1 L2 w h1 h2 hp hl
    have EM : Hid (∀ (R1 R2 : Nat) (S1 S2 : Nat → Prop) (L1 L2 : List (Ky × Int)) (wr : World), P2 w R1 R2 S1 S2 L1 L2 wr → L1.Perm L2 → L1.length ≤ 300 → (∀ x ∈ L1, x.1.d ≤ 9223372036854775807) → Calls Try.prog 14 #[.pointer (some ⟨R1, 0, none⟩), .pointer (some ⟨R2, 0, none⟩)] wr fun e w' => e = .returned (.bool true) ∧ Below w.heap.size w w') := fun R1 R2 S1 S2 L1 L2 wr h hp hl hd => emptied_yes w R1 R2 S1 S2 L1 L2 wr h hp hl hd
    have hk1 := mem_take_kN (ks := ks) (n := N) hjN (by rw [HN.out]; exact Nat.le_refl _)
    have hkm := (flT_keys ks N (by rw [HN.out]; exact Nat.le_refl _) (kN ks j)).2 hk1
    obtain ⟨⟨k', vv⟩, hkv, hkk⟩ := List.mem_map.1 hkm
    have hll : (flT ks N).length ≤ N := by rw [flT_len]; exact unT_len ks N
    have BD : Hid (∀ x ∈ flT ks N, x.1.d ≤ 9223372036854775807) := fun x hx => OK.out _ (List.mem_of_mem_take ((flT_keys ks N (by rw [HN.out]; exact Nat.le_refl _) x.1).1 (List.mem_map.2 ⟨x, hx, rfl⟩)))
    have HK : Hid ((kN ks j, vv) ∈ flT ks N ∧ (flT ks N).length ≤ 300) := ⟨by rw [← hkk]; exact hkv, by omega⟩
    have FI2 : Hid (∀ w', Below w.heap.size w w' → Calls Try.prog 6 #[.slice ao N cap] w' (NewL w' (flT ks N))) := fun w' b => by
      have := FI.out ks _ w' (by rw [HN.out]; omega) (RD.out w' b)
      rw [HN.out] at this
      exact this
    clear hk1 hkm hkv hkk hll FI SO
    go_enter Try.func4, Try.ntmps4
    go_wp2_with fail
    refine (FI2.out w (Below.refl _ _)).mono ?_
    rintro e w1 ⟨R1, S1, rfl, q1, s1, b1⟩
    have D1 : Hid (TQ.QAt R1 S1 (flT ks N) w1 ∧ (∀ g, S1 g → w.heap.size ≤ g) ∧ Below w.heap.size w w1) := ⟨q1, s1, b1⟩
    clear q1 s1 b1
    go_wp2_with fail
    refine (FI2.out w1 D1.out.2.2).mono ?_
    rintro e w2 ⟨R2, S2, rfl, q2, s2, b2⟩
    have D2 : Hid (P2 w R1 R2 S1 S2 (flT ks N) (flT ks N) w2) := ⟨D1.out.1.below b2, q2, fun g h1 h2 => by have := D1.out.1.s g h1; have := s2 g h2; omega, D1.out.2.1, fun g hg => Nat.le_trans D1.out.2.2.size (s2 g hg), below_trans D1.out.2.2 b2⟩
    clear q2 s2 b2 D1 FI2
    obtain ⟨g, o, rfl, x0, x1, x2, _⟩ := RdK.cells (RD.out w2 D2.out.bw) hjN
    generalize kN ks j = k at *
    go_upto_region 10 with fail
    have D3 : Hid (P2 w R1 R2 S1 S2 (flT ks N) (flT ks N) ((w2.alloc (.cells #[.int .i64 k.d, .int .i64 k.l, .int .i64 k.n] 31)).alloc (.cells #[.int .i64 day, .int .i64 k.l, .int .i64 k.n] 31)) ∧ Bx w2.heap.size k S1 S2 ((w2.alloc (.cells #[.int .i64 k.d, .int .i64 k.l, .int .i64 k.n] 31)).alloc (.cells #[.int .i64 day, .int .i64 k.l, .int .i64 k.n] 31)) ∧ Bx (w2.heap.size + 1) ⟨day, k.l, k.n⟩ S1 S2 ((w2.alloc (.cells #[.int .i64 k.d, .int .i64 k.l, .int .i64 k.n] 31)).alloc (.cells #[.int .i64 day, .int .i64 k.l, .int .i64 k.n] 31))) := by
      have s1 := D2.out.q1.s
      have s2 := D2.out.q2.s
      refine ⟨(D2.out.below (below_alloc _ _)).below (below_alloc _ _), ⟨(Blk.new 31 (kyL k) w2).old _, fun h => ?_, fun h => ?_⟩, Blk.new2 31 (kyL ⟨day, k.l, k.n⟩) w2 _, fun h => ?_, fun h => ?_⟩
      · have := s1 _ h; omega
      · have := s2 _ h; omega
      · have := s1 _ h; omega
      · have := s2 _ h; omega
    clear D2 x0 x1 x2 RD
    generalize (w2.alloc (.cells #[.int .i64 k.d, .int .i64 k.l, .int .i64 k.n] 31)).alloc (.cells #[.int .i64 day, .int .i64 k.l, .int .i64 k.n] 31) = w3 at *
    generalize w2.heap.size + 1 = K2 at *
    generalize w2.heap.size = K1 at *
    clear w2
    have STEP : Hid (∀ S1 S2 L1 L2 a b, Below a.heap.size a b → (P2 w R1 R2 S1 S2 L1 L2 a ∧ Bx K1 k S1 S2 a ∧ Bx K2 ⟨day, k.l, k.n⟩ S1 S2 a) → (P2 w R1 R2 S1 S2 L1 L2 b ∧ Bx K1 k S1 S2 b ∧ Bx K2 ⟨day, k.l, k.n⟩ S1 S2 b)) := fun S1 S2 L1 L2 a b bb h => ⟨h.1.below bb, h.2.1.below bb, h.2.2.below bb⟩
    have t0 := D3.out.2.2.1.cell 0 _ rfl
    have t1 := D3.out.2.2.1.cell 1 _ rfl
    have t2 := D3.out.2.2.1.cell 2 _ rfl
    by_cases hd : day = k.d
    · subst hd
      have NEc : Hid ((flT ks N).Perm (flT ks N)) := List.Perm.refl _
      go_wp2_with fail
      refine (TQ.get_yes R2 S2 (flT ks N) w3 k vv D3.out.1.q2 HK.out.1).mono ?_
      rintro e w4 ⟨rfl, b4⟩
      have D4 : Hid (P2 w R1 R2 S1 S2 (flT ks N) (flT ks N) w4 ∧ Bx K1 k S1 S2 w4 ∧ Bx K2 ⟨k.d, k.l, k.n⟩ S1 S2 w4) := STEP.out _ _ _ _ _ _ b4 D3.out
      clear D3 b4 t0 t1 t2
      have y0 := D4.out.2.1.1.cell 0 _ rfl
      have y1 := D4.out.2.1.1.cell 1 _ rfl
      have y2 := D4.out.2.1.1.cell 2 _ rfl
      go_wp2_with fail
      refine (TQ.move_same R1 S1 (flT ks N) w4 k vv D4.out.1.q1 HK.out.1).mono ?_
      rintro e w5 ⟨rfl, b5⟩
      have D5 : Hid (P2 w R1 R2 S1 S2 (flT ks N) (flT ks N) w5 ∧ Bx K1 k S1 S2 w5 ∧ Bx K2 ⟨k.d, k.l, k.n⟩ S1 S2 w5) := STEP.out _ _ _ _ _ _ b5 D4.out
      clear D4 b5 y0 y1 y2
      have y0 := D5.out.2.1.1.cell 0 _ rfl
      go_wp2_with fail
      refine (AL.out R1 R2 S1 S2 (flT ks N) (flT ks N) w5 D5.out.1.q1 D5.out.1.q2 NEc.out (by have := HK.out.2; omega)).mono ?_
      rintro e w6 ⟨rfl, b6⟩
      have F6 : Hid (Below w.heap.size w w6) := below_trans D5.out.1.bw b6
      clear D5 b6 AL EM STEP y0
      go_wp2_with fail
      go_ret
      exact ⟨rfl, F6.out⟩
    · have hd1 : (day == k.d) = false := by simpa using hd
      by_cases ht : (⟨day, k.l, k.n⟩ : Ky) ∈ (flT ks N).map (·.1)
      · obtain ⟨⟨t', v2⟩, htv, htt⟩ := List.mem_map.1 ht
        have HT : Hid (((⟨day, k.l, k.n⟩ : Ky), v2) ∈ flT ks N ∧ (⟨day, k.l, k.n⟩ : Ky) ∈ (flT ks N).map (·.1) ∧ day ≠ k.d) := ⟨by rw [← htt]; exact htv, ht, hd⟩
        clear htv htt ht hd
        go_wp2_with fail
        refine (TQ.get_yes R2 S2 (flT ks N) w3 ⟨day, k.l, k.n⟩ v2 D3.out.1.q2 HT.out.1).mono ?_
        rintro e w4 ⟨rfl, b4⟩
        have D4 : Hid (P2 w R1 R2 S1 S2 (flT ks N) (flT ks N) w4 ∧ Bx K1 k S1 S2 w4 ∧ Bx K2 ⟨day, k.l, k.n⟩ S1 S2 w4) := STEP.out _ _ _ _ _ _ b4 D3.out
        clear D3 b4 t0 t1 t2
        have y0 := D4.out.2.1.1.cell 0 _ rfl
        have y1 := D4.out.2.1.1.cell 1 _ rfl
        have y2 := D4.out.2.1.1.cell 2 _ rfl
        go_wp2_with fail
        refine (TQ.move_taken R1 S1 (flT ks N) w4 k vv day D4.out.1.q1 HK.out.1 HT.out.2.2 HT.out.2.1).mono ?_
        rintro e w5 ⟨rfl, b5⟩
        have D5 : Hid (P2 w R1 R2 S1 S2 (flT ks N) (flT ks N) w5 ∧ Bx K1 k S1 S2 w5 ∧ Bx K2 ⟨day, k.l, k.n⟩ S1 S2 w5) := STEP.out _ _ _ _ _ _ b5 D4.out
        clear D4 b5 y0 y1 y2
        have y0 := D5.out.2.1.1.cell 0 _ rfl
        go_wp2_with fail
        refine (AL.out R1 R2 S1 S2 (flT ks N) (flT ks N) w5 D5.out.1.q1 D5.out.1.q2 (List.Perm.refl _) (by have := HK.out.2; omega)).mono ?_
        rintro e w6 ⟨rfl, b6⟩
        have F6 : Hid (Below w.heap.size w w6) := below_trans D5.out.1.bw b6
        clear D5 b6 AL EM STEP y0
        go_wp2_with fail
        go_ret
        exact ⟨rfl, F6.out⟩
      · have HT : Hid ((⟨day, k.l, k.n⟩ : Ky) ∉ (flT ks N).map (·.1) ∧ day ≠ k.d) := ⟨ht, hd⟩
        clear ht hd
        go_wp2_with fail
        refine (TQ.get_no R2 S2 (flT ks N) w3 ⟨day, k.l, k.n⟩ D3.out.1.q2 HT.out.1).mono ?_
        rintro e w4 ⟨rfl, b4⟩
        have D4 : Hid (P2 w R1 R2 S1 S2 (flT ks N) (flT ks N) w4 ∧ Bx K1 k S1 S2 w4 ∧ Bx K2 ⟨day, k.l, k.n⟩ S1 S2 w4) := STEP.out _ _ _ _ _ _ b4 D3.out
        clear D3 b4 t0 t1 t2
        have y0 := D4.out.2.1.1.cell 0 _ rfl
        have y1 := D4.out.2.1.1.cell 1 _ rfl
        have y2 := D4.out.2.1.1.cell 2 _ rfl
        go_wp2_with fail
        refine (TQ.move_yes R1 S1 (flT ks N) w4 k vv day D4.out.1.q1 HK.out.1 HT.out.2 (by have := HK.out.2; omega) HT.out.1).mono ?_
        rintro e w5 ⟨rfl, L1, p5, q5, k5⟩
        obtain ⟨T1, hP5, hB5⟩ := D4.out.1.leftB (TQ.QPost.of_kp q5 k5)
        have nd := D4.out.1.q1.nodup'
        have D5 : Hid ((P2 w R1 R2 T1 S2 ((⟨day, k.l, k.n⟩, vv) :: L1) (flT ks N) w5 ∧ Bx K1 k T1 S2 w5 ∧ Bx K2 ⟨day, k.l, k.n⟩ T1 S2 w5) ∧ (flT ks N).Perm ((k, vv) :: L1) ∧ ((flT ks N).map (·.1)).Nodup) := ⟨⟨hP5, hB5 _ _ D4.out.2.1, hB5 _ _ D4.out.2.2⟩, p5, nd⟩
        clear D4 y0 y1 y2 p5 q5 k5 hP5 hB5 nd
        have y0 := D5.out.1.2.1.1.cell 0 _ rfl
        have y1 := D5.out.1.2.1.1.cell 1 _ rfl
        have y2 := D5.out.1.2.1.1.cell 2 _ rfl
        go_wp2_with fail
        refine (TQ.get_yes R2 S2 (flT ks N) w5 k vv D5.out.1.1.q2 HK.out.1).mono ?_
        rintro e w6 ⟨rfl, b6⟩
        have D6 : Hid ((P2 w R1 R2 T1 S2 ((⟨day, k.l, k.n⟩, vv) :: L1) (flT ks N) w6 ∧ Bx K1 k T1 S2 w6 ∧ Bx K2 ⟨day, k.l, k.n⟩ T1 S2 w6) ∧ (flT ks N).Perm ((k, vv) :: L1) ∧ ((flT ks N).map (·.1)).Nodup) := ⟨STEP.out _ _ _ _ _ _ b6 D5.out.1, D5.out.2⟩
        clear D5 b6 y0 y1 y2
        have y0 := D6.out.1.2.1.1.cell 0 _ rfl
        have y1 := D6.out.1.2.1.1.cell 1 _ rfl
        have y2 := D6.out.1.2.1.1.cell 2 _ rfl
        go_wp2_with fail
        refine (TQ.cancel_yes R2 S2 (flT ks N) w6 k vv D6.out.1.1.q2 (by have := HK.out.2; omega) HK.out.1).mono ?_
        rintro e w7 ⟨rfl, L2, p7, q7, k7⟩
        obtain ⟨T2, hP7, hB7⟩ := D6.out.1.1.rightB (TQ.QPost.of_kp q7 k7)
        have D7 : Hid ((P2 w R1 R2 T1 T2 ((⟨day, k.l, k.n⟩, vv) :: L1) L2 w7 ∧ Bx K1 k T1 T2 w7 ∧ Bx K2 ⟨day, k.l, k.n⟩ T1 T2 w7) ∧ (flT ks N).Perm ((k, vv) :: L1) ∧ (flT ks N).Perm ((k, vv) :: L2) ∧ ((flT ks N).map (·.1)).Nodup) := ⟨⟨hP7, hB7 _ _ D6.out.1.2.1, hB7 _ _ D6.out.1.2.2⟩, D6.out.2.1, p7, D6.out.2.2⟩
        clear D6 y0 y1 y2 p7 q7 k7 hP7 hB7
        have t0 := D7.out.1.2.2.1.cell 0 _ rfl
        have t1 := D7.out.1.2.2.1.cell 1 _ rfl
        have t2 := D7.out.1.2.2.1.cell 2 _ rfl
        go_wp2_with fail
        refine (TQ.put_yes R2 T2 L2 w7 ⟨day, k.l, k.n⟩ vv D7.out.1.1.q2 (by have := D7.out.2.2.1.length_eq; have := HK.out.2; simp at *; omega) (fun hm => by
          obtain ⟨x, hx, hxe⟩ := List.mem_map.1 hm
          exact HT.out.1 (List.mem_map.2 ⟨x, (nodup_rest D7.out.2.2.2 D7.out.2.2.1).2 x hx, hxe⟩))).mono ?_
        rintro e w8 ⟨rfl, h8⟩
        obtain ⟨T3, hP8, hB8⟩ := D7.out.1.1.rightB h8
        have D8 : Hid ((P2 w R1 R2 T1 T3 ((⟨day, k.l, k.n⟩, vv) :: L1) ((⟨day, k.l, k.n⟩, vv) :: L2) w8 ∧ Bx K1 k T1 T3 w8 ∧ Bx K2 ⟨day, k.l, k.n⟩ T1 T3 w8) ∧ (flT ks N).Perm ((k, vv) :: L1) ∧ (flT ks N).Perm ((k, vv) :: L2) ∧ ((flT ks N).map (·.1)).Nodup) := ⟨⟨hP8, hB8 _ _ D7.out.1.2.1, hB8 _ _ D7.out.1.2.2⟩, D7.out.2⟩
        clear D7 t0 t1 t2 h8 hP8 hB8
        have y0 := D8.out.1.2.1.1.cell 0 _ rfl
        have y1 := D8.out.1.2.1.1.cell 1 _ rfl
        have y2 := D8.out.1.2.1.1.cell 2 _ rfl
        go_wp2_with fail
        refine (TQ.get_no R1 T1 ((⟨day, k.l, k.n⟩, vv) :: L1) w8 k D8.out.1.1.q1 (fun hm => by
          rw [List.map_cons, List.mem_cons] at hm
          rcases hm with e | hm
          · exact HT.out.2 (by rw [e])
          · exact (nodup_rest D8.out.2.2.2 D8.out.2.1).1 hm)).mono ?_
        rintro e w9 ⟨rfl, b9⟩
        have PP : Hid (((((⟨day, k.l, k.n⟩ : Ky), vv) :: L1).Perm ((⟨day, k.l, k.n⟩, vv) :: L2)) ∧ (((⟨day, k.l, k.n⟩ : Ky), vv) :: L1).length ≤ 300 ∧ ∀ x ∈ ((⟨day, k.l, k.n⟩ : Ky), vv) :: L1, x.1.d ≤ 9223372036854775807) := by
          have d := D8.out.2
          refine ⟨((List.perm_cons (k, vv)).1 (d.1.symm.trans d.2.1)).cons _, ?_, fun x hx => ?_⟩
          · have := d.1.length_eq
            have := HK.out.2
            simp at *
            omega
          · rcases List.mem_cons.1 hx with rfl | hx
            · exact hday
            · exact BD.out x ((nodup_rest d.2.2 d.1).2 x hx)
        have D9 : Hid (P2 w R1 R2 T1 T3 ((⟨day, k.l, k.n⟩, vv) :: L1) ((⟨day, k.l, k.n⟩, vv) :: L2) w9) := (STEP.out _ _ _ _ _ _ b9 D8.out.1).1
        clear D8 b9 y0 y1 y2 STEP HT BD HK OK
        go_wp2_with fail
        refine (AL.out R1 R2 T1 T3 _ _ w9 D9.out.q1 D9.out.q2 PP.out.1 (by have := PP.out.2.1; omega)).mono ?_
        rintro e w10 ⟨rfl, b10⟩
        have D10 : Hid (P2 w R1 R2 T1 T3 ((⟨day, k.l, k.n⟩, vv) :: L1) ((⟨day, k.l, k.n⟩, vv) :: L2) w10) := D9.out.below b10
        clear D9 b10 AL
        go_wp2_with fail
        refine (EM.out R1 R2 T1 T3 _ _ w10 D10.out PP.out.1 PP.out.2.1 PP.out.2.2).mono ?_
        rintro e w11 ⟨rfl, b11⟩
        have F11 : Hid (Below w.heap.size w w11) := b11
        clear D10 b11 EM PP
        go_wp2_with fail
        go_ret
        exact ⟨rfl, F11.out⟩
end Go.Proofs.Ytfdehlfhnlgcjaa
