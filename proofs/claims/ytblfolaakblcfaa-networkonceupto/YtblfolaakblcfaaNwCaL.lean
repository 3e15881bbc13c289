/-
  Ours: NetworkCalm.
-/
import Derived.Test.YtblfolaakblcfaaNwClm
import Derived.Test.YtblfolaakblcfaaNwCalM
namespace Go.Proofs.Ytblfolaakblcfaa
open Go.RowKit NwM

/-- The network of a law behind k steps of its script. -/
structure LN (w : World) (R : Nat) (S B : Nat → Prop) (k : Nat) (t : Nt) (wr : World) : Prop where
  no : NO w R S B t wr
  sm : Sm k t
  tk : Tk t
  al : AllN (fun _ b => b.length ≤ 1048576) t
theorem LN.play {w wr w' : World} {R : Nat} {S B S' B' : Nat → Prop} {k : Nat} {t t' : Nt} {o : OpN} {ids : List Int} (h : LN w R S B k t wr) (p : NPost R S B wr t' S' B' w') (q : Play t o t' ids) (hb : o.bs.length ≤ 1048576) : LN w R S' B' (k + 1) t' w' :=
  ⟨h.no.step p, h.sm.play q, h.tk.play q h.sm.fl h.no.net.fok, h.al.play q (fun _ => hb)⟩
theorem LN.new {w w' : World} {e : Ending} (h : NewN w e w') : ∃ R S, e = .returned (.pointer (some ⟨R, 0, none⟩)) ∧ LN w R S (fun _ => False) 0 nt0 w' := by
  obtain ⟨R, S, he, h1⟩ := NO.new h
  exact ⟨R, S, he, h1, Sm.nt0, Tk.nt0, AllN.nt0 _⟩
theorem LN.later {w wr w' : World} {R : Nat} {S B : Nat → Prop} {k : Nat} {t : Nt} (h : LN w R S B k t wr) (b : Below wr.heap.size wr w') : LN w R S B k t w' := ⟨h.no.later b, h.sm, h.tk, h.al⟩

set_option maxRecDepth 40000 in
set_option maxHeartbeats 4000000 in
theorem calm_any (os : List OpN) (a : Option Addr) (n c : Nat) (id : Int) (xa : Option Addr) (xn xc : Nat) (bs : List Nat) (w : World) (hr : RdO w (.slice a n c) os) (hln : os.length = n) (ho : ∀ o ∈ os, o.bs.length ≤ 1048576) (hn : n ≤ 1048576) (hb : RdB w (.slice xa xn xc) bs) (hl : bs.length ≤ 1048576) :
    Calls Try.prog 6 #[.slice a n c, .int .i64 id, .slice xa xn xc] w fun e w' => e = .returned (.bool true) ∧ Below w.heap.size w w' := by
  have NW : Hid (Calls Try.prog 9 #[] w (NewN w)) := new_at w
  have HR : Hid (RdO w (.slice a n c) os ∧ os.length = n ∧ (∀ o ∈ os, o.bs.length ≤ 1048576) ∧ RdB w (.slice xa xn xc) bs) := ⟨hr, hln, ho, hb⟩
  clear hr hln ho hb
  go_enter Try.func6, Try.ntmps6
  go_wp2_with fail
  refine NW.out.mono ?_
  intro e w1 h1
  obtain ⟨R, S, rfl, n1⟩ := LN.new h1
  have N1 : Hid (LN w R S (fun _ => False) 0 nt0 w1) := n1
  have CY : Hid (Calls Try.prog 19 #[] w1 fun e w' => e = .returned (.bool true) ∧ Below w1.heap.size w1 w') := calmly_at w1
  clear h1 n1 NW
  go_wp2_with fail
  refine CY.out.mono ?_
  rintro e w2 ⟨rfl, b2⟩
  have N2 : Hid (LN w R S (fun _ => False) 0 nt0 w2) := N1.out.later b2
  clear CY N1 b2
  go_wp2_with fail
  go_loopw [8] (fun vk wr => ∃ k : Nat, ∃ Sk Bk t, vk = .int .i64 (k : Int) ∧ k ≤ n ∧ LN w R Sk Bk k t wr) (fun vk _ => n - (intOf vk).toNat)
  case atStart => exact ⟨0, S, _, nt0, rfl, by omega, N2.out⟩
  case round =>
    obtain ⟨k, Sk, Bk, t, rfl, hk, hno⟩ := hrel
    by_cases hlt : (k : Int) < (n : Int)
    · obtain ⟨o, hok⟩ : ∃ o, os[k]? = some o := ⟨os[k]'(by rw [HR.out.2.1]; omega), List.getElem?_eq_getElem _⟩
      obtain ⟨g, off, rfl, lg, y0, y1, y2, y3, y4, y5, rd⟩ := RdO.at HR.out.1 hno.no.below hok
      have hbs := HR.out.2.2.1 o (List.mem_of_getElem? hok)
      have PL : Hid (Calls Try.prog 20 #[.pointer (some ⟨R, 0, none⟩), .agg #[.int .i64 o.kind, .bool o.other, .string o.lt, .int .i64 o.id, .bool o.ack, .slice o.xa o.xn o.xc]] wr (PlayAns R Sk Bk t o wr)) := play_at R Sk Bk t o k wr hno.no.net hno.sm (by omega) rd (by omega)
      have HK : Hid (LN w R Sk Bk k t wr ∧ o.bs.length ≤ 1048576) := ⟨hno, hbs⟩
      have hkn : k < n := by omega
      clear hno hok rd hbs
      go_wp2_with fail
      refine PL.out.mono ?_
      rintro e w3 ⟨a3, n3, c3, S3, B3, t3, ids, rfl, r3, p3, x3, q3⟩
      have N3 : Hid (LN w R S3 B3 (k + 1) t3 w3) := HK.out.1.play p3 q3 HK.out.2
      clear PL HK r3 p3 x3 q3 y0 y1 y2 y3 y4 y5 lg
      go_wp2_with fail
      go_roundw
      case rel => exact ⟨k + 1, S3, B3, t3, by go_num, by omega, N3.out⟩
      case measure => simp [intOf]; omega
    · obtain rfl : k = n := by omega
      have CA : Hid (Calls Try.prog 23 #[.pointer (some ⟨R, 0, none⟩)] wr fun e w' => e = .returned (.tuple #[]) ∧ NPost R Sk Bk wr (calm t) Sk Bk w') := calm_at R Sk Bk t wr hno.no.net
      have HK : Hid (LN w R Sk Bk k t wr) := hno
      clear hno
      go_wp2_with fail
      refine CA.out.mono ?_
      rintro e w4 ⟨rfl, p4⟩
      have N4 : Hid (NO w R Sk Bk (calm t) w4) := HK.out.no.step p4
      have M4 : Hid (Sm (k + 1) (calm t)) := HK.out.sm.calm
      have NO1 : Hid (Calls Try.prog 21 #[.pointer (some ⟨R, 0, none⟩)] w4 fun e w' => e = .returned (.int .i64 ((t.now : Nat) : Int)) ∧ w4 = w') := now_at R Sk Bk (calm t) w4 N4.out.net
      obtain ⟨m, hm⟩ : ∃ m : Nat, t.now = m := ⟨_, rfl⟩
      have HM : Hid (t.now = m) := hm
      have hm2 : m ≤ 1048576 := by have := HK.out.sm.now; omega
      rw [hm] at NO1
      clear CA p4 hm
      go_wp2_with fail
      refine NO1.out.mono ?_
      rintro e _ ⟨rfl, rfl⟩
      have CP : Hid (Calls Try.prog 12 #[.slice xa xn xc] w4 (NewS w4 bs)) := copied_at bs _ w4 (by omega) (Rd.later HR.out.2.2.2 N4.out.below)
      clear NO1
      go_wp2_with fail
      refine CP.out.mono ?_
      rintro e w5 ⟨a5, n5, c5, rfl, r5, b5⟩
      have N5 : Hid (NO w R Sk Bk (calm t) w5) := N4.out.later b5
      have SN : Hid (Calls Try.prog 11 #[.pointer (some ⟨R, 0, none⟩), .agg #[.bool false, .int .i64 id, .slice a5 n5 c5]] w5 (SendAns R Sk Bk (calm t) id bs w5)) := send_at R Sk _ _ false id a5 n5 c5 bs w5 N5.out.net (RowV.rd r5) (by omega) (by have := M4.out.sz; omega) (by have := M4.out.now; omega)
      clear CP N4 r5 b5
      go_wp2_with fail
      refine SN.out.mono ?_
      rintro e w6 ⟨rfl, S6, B6, p, p6, pa, pi, pb⟩
      have N6 : Hid (NO w R S6 B6 (hand (calm t) p) w6) := N5.out.step p6
      have M6 : Hid (Sm (k + 2) (hand (calm t) p)) := M4.out.hand p pa
      have st := sent_calm (t := t) (p := p) HK.out.sm.fl HK.out.tk.here id
      have ct := calm_told st.ca st.inn pa
      rw [pi] at ct
      have HT : Hid (Ca 0 (hand (calm t) p) ∧ (∃ b ∈ (tick (hand (calm t) p)).1.ac, b.id = id) ∧ id ∈ (tick (tick (hand (calm t) p)).1).2 ∧ (hand (calm t) p).now = m ∧ Tk (hand (calm t) p) ∧ AllN (fun _ b => b.length ≤ 1048576) (hand (calm t) p)) := ⟨st.ca, ct.1, ct.2, by rw [hand_now]; exact HM.out, ⟨by rw [hand_ac, hand_now]; exact HK.out.tk.ac, by rw [hand_here (t := calm t) HK.out.sm.fl (fun f hf => by cases hf)]; exact HK.out.tk.here⟩, (show AllN (fun _ b => b.length ≤ 1048576) (calm t) from ⟨HK.out.al.fl, HK.out.al.ac⟩).hand (fun _ => by rw [pb]; exact hl)⟩
      clear SN N5 p6 pa pi pb st ct M4 HK HM
      generalize hand (calm t) p = T at *
      have BN : Hid (∀ k, sz (run T k) ≤ 999999999000 ∧ (run T k).now = m + k) := fun k => ⟨Nat.le_trans (run_sz T M6.out.fl k) (by have := M6.out.sz; omega), by rw [run_now, HT.out.2.2.2.1]⟩
      have T1 : Hid (Calls Try.prog 14 #[.pointer (some ⟨R, 0, none⟩)] w6 (TickAns R S6 B6 T w6)) := tick_at R S6 B6 T w6 N6.out.net (BN.out 0).1 (by have := (BN.out 0).2; show (run T 0).now ≤ _; omega)
      go_wp2_with fail
      refine T1.out.mono ?_
      rintro e w7 ⟨a7, n7, c7, S7, rfl, r7, p7, x7⟩
      have N7 : Hid (NO w R S7 B6 (run T 1) w7) := N6.out.step p7
      have NO2 : Hid (Calls Try.prog 21 #[.pointer (some ⟨R, 0, none⟩)] w7 fun e w' => e = .returned (.int .i64 ((m : Int) + 1)) ∧ w7 = w') := by
        have := now_at R S7 B6 (run T 1) w7 N7.out.net
        rw [(BN.out 1).2, show ((m + 1 : Nat) : Int) = (m : Int) + 1 from by omega] at this
        exact this
      have AC : Hid (Calls Try.prog 16 #[.pointer (some ⟨R, 0, none⟩)] w7 (AccAns (run T 1) w7)) := accepted_at R S7 B6 _ w7 N7.out.net (by have := (BN.out 1).1; unfold sz at this; omega) (fun x hx => by have := (HT.out.2.2.2.2.2.run 1).ac x hx; omega)
      clear T1 N6 r7 p7 x7
      have em : ((m : Int) + 1 != (m : Int) + 1) = false := by simp
      go_wp2_with fail
      refine NO2.out.mono ?_
      rintro e _ ⟨rfl, rfl⟩
      clear NO2
      go_wp2_with fail
      refine AC.out.mono ?_
      rintro e w8 ⟨a8, n8, c8, ys, rfl, l8, q8, b8⟩
      have N8 : Hid (NO w R S7 B6 (run T 1) w8) := N7.out.later b8
      have hat : 1 ≤ accT ys id := by
        rw [accT_core q8]
        exact accT_pos HT.out.2.1 (fun x hx => ((HT.out.2.2.2.2.1.tick HT.out.1.fl (by rw [HT.out.1.fs]; intro f hf; cases hf)).ac x hx).1)
      have TO : Hid (Calls Try.prog 15 #[.slice a8 n8 c8, .int .i64 id] w8 fun e w' => e = .returned (.int .i64 (accT ys id)) ∧ w8 = w') := tickOf_at ys id _ w8 (by rw [core_len q8]; have := (BN.out 1).1; unfold sz at this; omega) (own_mono l8.row (Nat.zero_le _))
      have T2 : Hid (Calls Try.prog 14 #[.pointer (some ⟨R, 0, none⟩)] w8 (TickAns R S7 B6 (run T 1) w8)) := tick_at R S7 B6 _ w8 N8.out.net (BN.out 1).1 (by have := (BN.out 1).2; omega)
      have ez : (accT ys id == 0) = false := by simp; omega
      generalize accT ys id = q at *
      clear AC N7 l8 q8 b8 hat
      go_wp2_with fail
      refine TO.out.mono ?_
      rintro e _ ⟨rfl, rfl⟩
      clear TO
      go_wp2_with fail
      refine T2.out.mono ?_
      rintro e w9 ⟨a9, n9, c9, S9, rfl, r9, p9, x9⟩
      have N9 : Hid (NO w R S9 B6 (run T 2) w9) := N8.out.step p9
      have HA : Hid (Calls Try.prog 24 #[.slice a9 n9 c9, .int .i64 id] w9 fun e w' => e = .returned (.bool true) ∧ w9 = w') := by
        have hl9 : (tick (run T 1)).2.length ≤ 1000000000000 := by
          have h1 := foldA_ids (arrs (run T 1)) (beg (run T 1), [])
          have h2 := row_len (run T 1) (((run T 1).now + 1) % 10)
          have h3 := (BN.out 1).1
          unfold sz at h3
          simp only [List.length_nil] at h1
          show ((arrs (run T 1)).foldl arr1 (beg (run T 1), [])).2.length ≤ _
          unfold arrs at h1 ⊢
          omega
        have := has_at (tick (run T 1)).2 id _ w9 hl9 (RowV.rd r9)
        have ed : decide (id ∈ (tick (run T 1)).2) = true := decide_eq_true HT.out.2.2.1
        rw [ed] at this
        exact this
      clear T2 N8 r9 p9 x9
      go_wp2_with fail
      refine HA.out.mono ?_
      rintro e _ ⟨rfl, rfl⟩
      clear HA
      go_wp2_with fail
      go_loopw [10] (fun vk wr => ∃ j : Nat, ∃ Sj, vk = .int .i64 (j : Int) ∧ j ≤ 8 ∧ NO w R Sj B6 (run T (2 + j)) wr) (fun vk _ => 8 - (intOf vk).toNat)
      case atStart => exact ⟨0, S9, rfl, by omega, N9.out⟩
      case round =>
        obtain ⟨j, Sj, rfl, hj, hno⟩ := hrel
        by_cases hjl : (j : Int) < 8
        · have TJ : Hid (Calls Try.prog 14 #[.pointer (some ⟨R, 0, none⟩)] wr (TickAns R Sj B6 (run T (2 + j)) wr)) := tick_at R Sj B6 _ wr hno.net (BN.out (2 + j)).1 (by have := (BN.out (2 + j)).2; omega)
          have HJ : Hid (NO w R Sj B6 (run T (2 + j)) wr) := hno
          clear hno
          go_wp2_with fail
          refine TJ.out.mono ?_
          rintro e wx ⟨ax, nx, cx, Sx, rfl, rx, px, xx⟩
          have NX : Hid (NO w R Sx B6 (run T (2 + (j + 1))) wx) := HJ.out.step px
          clear TJ HJ rx px xx
          go_wp2_with fail
          go_roundw
          case rel => exact ⟨j + 1, Sx, by go_num, by omega, NX.out⟩
          case measure => simp [intOf]; omega
        · obtain rfl : j = 8 := by omega
          have FL : Hid (Calls Try.prog 13 #[.pointer (some ⟨R, 0, none⟩)] wr fun e w' => e = .returned (.int .i64 0) ∧ wr = w') := by
            have := flying_at R Sj B6 _ wr hno.net (by have := (BN.out (2 + 8)).1; omega)
            rw [(HT.out.1.run (2 + 8)).fly] at this
            exact this
          have NO3 : Hid (Calls Try.prog 21 #[.pointer (some ⟨R, 0, none⟩)] wr fun e w' => e = .returned (.int .i64 ((m : Int) + 10)) ∧ wr = w') := by
            have := now_at R Sj B6 _ wr hno.net
            rw [(BN.out (2 + 8)).2, show ((m + (2 + 8) : Nat) : Int) = (m : Int) + 10 from by omega] at this
            exact this
          have FB : Hid (Below w.heap.size w wr) := hno.below
          have en : ((m : Int) + 10 == (m : Int) + 10) = true := by simp
          clear hno
          go_wp2_with fail
          refine FL.out.mono ?_
          rintro e _ ⟨rfl, rfl⟩
          go_wp2_with fail
          refine NO3.out.mono ?_
          rintro e _ ⟨rfl, rfl⟩
          go_wp2_with fail
          go_ret
          exact ⟨rfl, FB.out⟩
end Go.Proofs.Ytblfolaakblcfaa
