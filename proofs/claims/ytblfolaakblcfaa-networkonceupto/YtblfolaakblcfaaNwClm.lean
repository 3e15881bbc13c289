/-
  Ours: calmly.
-/
import Derived.Test.YtblfolaakblcfaaNwSam
import Derived.Test.YtblfolaakblcfaaNwLetM
namespace Go.Proofs.Ytblfolaakblcfaa
open Go.RowKit NwM

theorem hand_calm (i : Int) (ba : Option Addr) (bn bc : Nat) (bs : List Nat) : hand nt0 (nP i ba bn bc bs) = ⟨0, [], pl 1 [nP i ba bn bc bs], []⟩ := rfl
theorem pk_eq {p : Pk} {i : Int} {bs : List Nat} (ha : p.ack = false) (hi : p.id = i) (hb : p.bs = bs) : p = nP i p.ba p.bn p.bc bs := by
  cases p
  simp at ha hi hb
  subst ha hi hb
  rfl
theorem row3_one {α : Type} (e : TypeId) (f : α → List Value) (hf : ∀ x, (f x).length = 3) (x : α) (w : World) : Row3 e f 0 (w.alloc (.cells (f x).toArray e)) (.slice (some ⟨w.heap.size, 0, none⟩) 1 1) [x] := by
  refine ⟨by rw [fm_len hf], .inr ⟨w.heap.size, 1, (f x).toArray, rfl, Nat.zero_le _, Blk.new e (f x) w, Nat.le_refl _, by decide, by simp [hf], ?_⟩⟩
  show (f x).take (1 * 3) = [x].flatMap f
  rw [List.take_of_length_le (by rw [hf]; decide)]
  simp
set_option maxRecDepth 40000 in
set_option maxHeartbeats 4000000 in
theorem calmly_at (w : World) : Calls Try.prog 19 #[] w fun e w' => e = .returned (.bool true) ∧ Below w.heap.size w w' := by
  have NW : Hid (Calls Try.prog 9 #[] w (NewN w)) := new_at w
  go_enter Try.func19, Try.ntmps19
  go_wp2_with fail
  refine NW.out.mono ?_
  intro e w1 h1
  obtain ⟨R, S, rfl, n1⟩ := NO.new h1
  have b1 := below_alloc w1 (.cells #[.int .u8 1, .int .u8 2] 5)
  have r1 : RdB (w1.alloc (.cells #[.int .u8 1, .int .u8 2] 5)) (.slice (some ⟨w1.heap.size, 0, none⟩) 2 2) [1, 2] := RowV.rd (row_new 5 [bv 1, bv 2] w1 (by decide))
  have SN : Hid (Calls Try.prog 11 #[.pointer (some ⟨R, 0, none⟩), .agg #[.bool false, .int .i64 5, .slice (some ⟨w1.heap.size, 0, none⟩) 2 2]] (w1.alloc (.cells #[.int .u8 1, .int .u8 2] 5)) (SendAns R S (fun _ => False) nt0 5 [1, 2] (w1.alloc (.cells #[.int .u8 1, .int .u8 2] 5)))) := send_at R S _ _ false 5 _ 2 2 [1, 2] _ (n1.net.below b1) r1 (by decide) (by decide) (by decide)
  have N1 : Hid (NO w R S (fun _ => False) nt0 (w1.alloc (.cells #[.int .u8 1, .int .u8 2] 5))) := n1.later b1
  clear h1 n1 NW b1 r1
  go_wp2_with fail
  refine SN.out.mono ?_
  rintro e w2 ⟨rfl, S2, B2, p, p2, pa, pi, pb⟩
  rw [pk_eq pa pi pb] at p2
  obtain ⟨ba, bn, bc, hp⟩ : ∃ ba bn bc, nP 5 p.ba p.bn p.bc [1, 2] = nP 5 ba bn bc [1, 2] := ⟨_, _, _, rfl⟩
  rw [hp, hand_calm] at p2
  have N2 : Hid (NO w R S2 B2 ⟨0, [], pl 1 [nP 5 ba bn bc [1, 2]], []⟩ w2) := N1.out.step p2
  have T1 : Hid (Calls Try.prog 14 #[.pointer (some ⟨R, 0, none⟩)] w2 (TickAns R S2 B2 ⟨0, [], pl 1 [nP 5 ba bn bc [1, 2]], []⟩ w2)) := tick_at R S2 B2 _ w2 N2.out.net (by show (3 : Nat) ≤ 999999999000; decide) (by show (0 : Nat) ≤ 999999999000; decide)
  clear SN N1 p2 pa pi pb hp
  go_wp2_with fail
  refine T1.out.mono ?_
  rintro e w3 ⟨a3, n3, c3, S3, rfl, r3, p3, x3⟩
  rw [tick_come (n := 0) (d := 1) (by decide) rfl] at r3 p3
  obtain rfl : n3 = 0 := by
    obtain ⟨_, _, ev, -, -⟩ := (RowV.rd r3).len
    injection ev with _ ev _
  have N3 : Hid (NO w R S3 B2 ⟨1, [], pl 2 [ackP 5], [accA (nP 5 ba bn bc [1, 2]) 1]⟩ w3) := N2.out.step p3
  have AC : Hid (Calls Try.prog 16 #[.pointer (some ⟨R, 0, none⟩)] w3 (AccAns ⟨1, [], pl 2 [ackP 5], [accA (nP 5 ba bn bc [1, 2]) 1]⟩ w3)) := accepted_at R S3 B2 _ w3 N3.out.net (by show (1 : Nat) ≤ 1000000000000; decide) (fun a ha => by rw [List.mem_singleton.1 ha]; show (2 : Nat) ≤ 140737488351232; decide)
  clear T1 N2 r3 p3 x3
  go_wp2_with fail
  refine AC.out.mono ?_
  rintro e w4 ⟨a4, n4, c4, ys, rfl, l4, q4, b4⟩
  have N4 : Hid (NO w R S3 B2 ⟨1, [], pl 2 [ackP 5], [accA (nP 5 ba bn bc [1, 2]) 1]⟩ w4) := N3.out.later b4
  have L4 : Hid (RdA w4 (.slice a4 n4 c4) ys ∧ ys.map core = [(5, 1, [1, 2])] ∧ (∀ g, (Value.slice a4 n4 c4).ownBlock = some g → w3.heap.size ≤ g) ∧ (∀ y ∈ ys, ∀ g, bkOf y = some g → w3.heap.size ≤ g) ∧ ∀ g, S3 g → g < w3.heap.size) := ⟨l4.rd (core_bs (P := fun b => b.length ≤ 140737488351232) q4 (fun a ha => by rw [List.mem_singleton.1 ha]; show (2 : Nat) ≤ 140737488351232; decide)), q4, fun g e => (own_heap l4.row e).1, fun y hy g e => RowV.block_ge (l4.bd y hy) e, fun g hg => N3.out.net.s hg⟩
  have T2 : Hid (Calls Try.prog 14 #[.pointer (some ⟨R, 0, none⟩)] w4 (TickAns R S3 B2 ⟨1, [], pl 2 [ackP 5], [accA (nP 5 ba bn bc [1, 2]) 1]⟩ w4)) := tick_at R S3 B2 _ w4 N4.out.net (by show (2 : Nat) ≤ 999999999000; decide) (by show (1 : Nat) ≤ 999999999000; decide)
  clear AC N3 l4 q4 b4
  go_wp2_with fail
  refine T2.out.mono ?_
  rintro e w5 ⟨a5, n5, c5, S5, rfl, r5, p5, x5⟩
  rw [tick_ack (n := 1) (d := 2) (by decide) rfl] at r5 p5
  obtain rfl : n5 = 1 := by
    obtain ⟨_, _, ev, -, -⟩ := (RowV.rd r5).len
    injection ev with _ ev _
  have L5 : Hid (RdA w5 (.slice a4 n4 c4) ys ∧ Rd w5 (.slice a5 1 c5) [iv 5] ∧ Below w.heap.size w w5) := by
    refine ⟨⟨own_kp L4.out.1.1 p5.k (fun g e q => ?_), fun y hy => ⟨Rd.kp (L4.out.1.2 y hy).1 p5.k (fun g e q => ?_), (L4.out.1.2 y hy).2⟩⟩, RowV.rd r5, (N4.out.step p5).below⟩
    · have := L4.out.2.2.1 g e; have := L4.out.2.2.2.2 g q; omega
    · have := L4.out.2.2.2.1 y hy g e; have := L4.out.2.2.2.2 g q; omega
  have HC : Hid (ys.map core = [(5, 1, [1, 2])]) := L4.out.2.1
  clear T2 N4 L4 r5 p5 x5
  have B6 : Hid (Below w5.heap.size w5 ((w5.alloc (.cells #[.int .u8 1, .int .u8 2] 5)).alloc (.cells #[.int .i64 5, .int .i64 1, .slice (some ⟨w5.heap.size, 0, none⟩) 2 2] 47))) := below_trans (below_alloc _ _) (below_alloc _ _)
  have SA : Hid (Calls Try.prog 18 #[.slice a4 n4 c4, .slice (some ⟨w5.heap.size + 1, 0, none⟩) 1 1] ((w5.alloc (.cells #[.int .u8 1, .int .u8 2] 5)).alloc (.cells #[.int .i64 5, .int .i64 1, .slice (some ⟨w5.heap.size, 0, none⟩) 2 2] 47)) fun e w' => e = .returned (.bool true) ∧ Below ((w5.alloc (.cells #[.int .u8 1, .int .u8 2] 5)).alloc (.cells #[.int .i64 5, .int .i64 1, .slice (some ⟨w5.heap.size, 0, none⟩) 2 2] 47)).heap.size ((w5.alloc (.cells #[.int .u8 1, .int .u8 2] 5)).alloc (.cells #[.int .i64 5, .int .i64 1, .slice (some ⟨w5.heap.size, 0, none⟩) 2 2] 47)) w') := by
    have z : (w5.alloc (.cells #[.int .u8 1, .int .u8 2] 5)).heap.size = w5.heap.size + 1 := by simp
    have ro := row3_one 47 acL acL3 ⟨5, 1, some ⟨w5.heap.size, 0, none⟩, 2, 2, [1, 2]⟩ (w5.alloc (.cells #[.int .u8 1, .int .u8 2] 5))
    rw [z] at ro
    have rb : RdB ((w5.alloc (.cells #[.int .u8 1, .int .u8 2] 5)).alloc (.cells #[.int .i64 5, .int .i64 1, .slice (some ⟨w5.heap.size, 0, none⟩) 2 2] 47)) (.slice (some ⟨w5.heap.size, 0, none⟩) 2 2) [1, 2] := Rd.later (RowV.rd (row_new 5 [bv 1, bv 2] w5 (by decide))) (below_alloc _ _)
    exact sameAcc_yes ys [⟨5, 1, some ⟨w5.heap.size, 0, none⟩, 2, 2, [1, 2]⟩] _ _ _ (by have := congrArg List.length HC.out; simp at this; omega) (L5.out.1.later B6.out) ⟨ro, fun y hy => by rw [List.mem_singleton.1 hy]; exact ⟨rb, by show (2 : Nat) ≤ 140737488351232; decide⟩⟩ HC.out
  go_wp2_with fail
  refine SA.out.mono ?_
  rintro e w7 ⟨rfl, b7⟩
  have L7 : Hid (Rd w7 (.slice a5 1 c5) [iv 5] ∧ Below w.heap.size w w7) := ⟨Rd.later (Rd.later L5.out.2.1 B6.out) b7, below_trans (below_trans L5.out.2.2 B6.out) b7⟩
  have BA : Hid (Below w7.heap.size w7 (w7.alloc (.cells #[.int .i64 5] 3))) := below_alloc _ _
  have SI : Hid (Calls Try.prog 17 #[.slice a5 1 c5, .slice (some ⟨w7.heap.size, 0, none⟩) 1 1] (w7.alloc (.cells #[.int .i64 5] 3)) fun e w' => e = .returned (.bool true) ∧ ∃ n, w' = (w7.alloc (.cells #[.int .i64 5] 3)).drewN n) := sameIDs_at [5] [5] _ _ (w7.alloc (.cells #[.int .i64 5] 3)) (by decide) (Rd.later L7.out.1 BA.out) (RowV.rd (row_new 3 [iv 5] w7 (by decide)))
  clear SA B6 L5 b7
  go_wp2_with fail
  refine SI.out.mono ?_
  rintro e _ ⟨rfl, m8, rfl⟩
  have F8 : Hid (Below w.heap.size w ((w7.alloc (.cells #[.int .i64 5] 3)).drewN m8)) := below_drewN (below_trans L7.out.2 BA.out) m8
  clear SI L7 BA
  go_wp2_with fail
  go_ret
  exact ⟨rfl, F8.out⟩
end Go.Proofs.Ytblfolaakblcfaa
