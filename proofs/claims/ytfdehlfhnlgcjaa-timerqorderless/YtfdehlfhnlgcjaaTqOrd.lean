/-
  Ours: the walk of TimerqOrderless.
-/
import Derived.Test.YtfdehlfhnlgcjaaTqOrdM
import Derived.Deep.Cut
namespace Go.Proofs.Ytfdehlfhnlgcjaa
open Go.RowKit TqM

theorem O2.same {w w1 : World} {R1 R2 : Nat} {S1 S2 : Nat → Prop} {L1 L2 L : List (Ky × Int)} {va vs : Value} {al ss : List Ky} (h : O2 w R1 R2 S1 S2 L1 L2 va vs al ss w1) (p : L2.Perm L) : O2 w R1 R2 S1 S2 L1 L va vs al ss w1 :=
  ⟨⟨h.p.q1, h.p.q2.perm p, h.p.dj, h.p.g1, h.p.g2, h.p.bw⟩, h.a, h.s, h.ha, h.hs⟩

set_option maxRecDepth 100000 in
set_option maxHeartbeats 4000000 in
theorem ord_any (ks ss : List Ky) (v vs : Value) (w : World) (ok : ∀ k ∈ ks, k.d ≤ 9223372036854775807) (h : RdK w v ks) (hsr : RdK w vs ss) : Calls Try.prog 3 #[v, vs] w fun e w' => e = .returned (.bool true) ∧ Below w.heap.size w w' := by
  have VB : Hid (0 < ss.length → ∀ g, vs.ownBlock = some g → g < w.heap.size) := fun h0 g hg => by
    obtain ⟨ao, cap, rfl, _, _, H⟩ := hsr
    obtain ⟨g', o', rfl, lt, _⟩ := H 0 h0
    have : g' = g := by simpa [Value.ownBlock] using hg
    omega
  have RS : Hid (∀ w', Below w.heap.size w w' → RdK w' vs ss) := fun w' hb => hsr.later hb
  have RK : Hid (RdK w v ks) := h
  obtain ⟨bo, bcap, rfl, hbcap, -, -⟩ := hsr
  obtain ⟨ao, cap, rfl, hcap, -, -⟩ := h
  obtain ⟨N, hN⟩ : ∃ N, ks.length = N := ⟨_, rfl⟩
  obtain ⟨P, hP⟩ : ∃ P, ss.length = P := ⟨_, rfl⟩
  have HN : Hid (ks.length = N ∧ ss.length = P) := ⟨hN, hP⟩
  rw [hN] at hcap RK ⊢
  rw [hP] at hbcap RS VB ⊢
  by_cases h1 : 300 < N
  · have e1 : (300 : Int) < (N : Int) := by omega
    clear RS RK VB
    go_enter Try.func3, Try.ntmps3
    go_wp2_with fail
    go_ret
    exact ⟨rfl, Below.refl _ _⟩
  by_cases h2 : 300 < P
  · have e1 : ¬ (300 : Int) < (N : Int) := by omega
    have e2 : (300 : Int) < (P : Int) := by omega
    clear RS RK VB
    go_enter Try.func3, Try.ntmps3
    go_wp2_with fail
    go_ret
    exact ⟨rfl, Below.refl _ _⟩
  have e1 : ¬ (300 : Int) < (N : Int) := by omega
  have e2 : ¬ (300 : Int) < (P : Int) := by omega
  have UN := unlike_at ks (.slice ao N cap) w (by omega) RK.out
  rw [hN] at UN
  have UND := unT_nodup ks N (by omega)
  have UNM := unT_mem ks N (by omega)
  have UNL := unT_len ks N
  have UH : Hid (Calls Try.prog 5 #[.slice ao N cap] w fun e w' => ∃ v', e = .returned v' ∧ RowK w.heap.size w' v' (unT ks N) ∧ Below w.heap.size w w') := UN
  have BDA : Hid (∀ k ∈ unT ks N, k.d ≤ 9223372036854775807) := fun k hk => ok k (List.mem_of_mem_take ((UNM k).1 hk))
  clear UN UNM RK ok
  generalize unT ks N = al at *
  obtain ⟨M, hM⟩ : ∃ M, al.length = M := ⟨_, rfl⟩
  have ALN : Hid (al.Nodup ∧ al.length = M) := ⟨UND, hM⟩
  have FA := flT_all UND al.length (Nat.le_refl _)
  rw [hM] at FA UNL
  have FLA : Hid ((flT al M).length = M ∧ ∀ x ∈ flT al M, x.1.d ≤ 9223372036854775807) := ⟨FA.2, fun x hx => by
    obtain ⟨j, hj, rfl⟩ := (FA.1 x).1 hx
    exact BDA.out _ (by rw [kN_at (by omega)]; exact List.getElem_mem _)⟩
  have FI : Hid (∀ (v : Value) (w : World), RdK w v al → Calls Try.prog 6 #[v] w (NewL w (flT al M))) := fun v w h => by
    have := filled_at al v w (by omega) h
    rw [hM] at this
    exact this
  have NW : Hid (∀ w, Calls Try.prog 7 #[] w (TQ.NewQ w)) := TQ.new_at
  have LE : Hid (∀ R S w, TQ.QAt R S (flT al M) w → Calls Try.prog 8 #[.pointer (some ⟨R, 0, none⟩)] w fun e w' => e = .returned (.int .i64 (M : Int)) ∧ w' = w) := fun R S w h => by
    have := TQ.len_at R S (flT al M) w h
    rw [FA.2] at this
    exact this
  have hM3 : M ≤ 300 := by omega
  clear UND UNL FA BDA hM hN hP
  go_enter Try.func3, Try.ntmps3
  go_wp2_with fail
  refine UH.out.mono ?_
  rintro e w1 ⟨va, rfl, r1, b1⟩
  have D1 : Hid (RdK w1 va al ∧ Below w.heap.size w w1 ∧ ∀ g, va.ownBlock = some g → g < w1.heap.size) := ⟨r1.rd, b1, fun g hg => r1.lt hg⟩
  clear r1 b1 UH
  go_wp2_with fail
  refine (FI.out va w1 D1.out.1).mono ?_
  rintro e w2 ⟨R1, S1, rfl, q2, s2, b2⟩
  have D2 : Hid (TQ.QAt R1 S1 (flT al M) w2 ∧ (∀ g, S1 g → w1.heap.size ≤ g) ∧ Below w1.heap.size w1 w2) := ⟨q2, s2, b2⟩
  clear q2 s2 b2 FI
  go_wp2_with fail
  refine (NW.out w2).mono ?_
  rintro e w3 ⟨R2, S2, rfl, q3, s3, b3⟩
  have D3 : Hid (O2 w R1 R2 S1 S2 (flT al M) [] va (.slice bo P bcap) al ss w3) := by
    have d1 := D1.out
    have d2 := D2.out
    refine ⟨⟨d2.1.below b3, q3, fun g g1 g2 => ?_, fun g hg => Nat.le_trans d1.2.1.size (d2.2.1 g hg), fun g hg => Nat.le_trans (Nat.le_trans d1.2.1.size d2.2.2.size) (s3 g hg), below_trans (below_trans d1.2.1 d2.2.2) b3⟩, (d1.1.later d2.2.2).later b3, RS.out _ (below_trans (below_trans d1.2.1 d2.2.2) b3), fun _ g hg => ⟨?_, fun hs => ?_⟩, fun h0 g hg => VB.out (by have := HN.out.2; omega) g hg⟩
    · have := d2.1.s g g1
      have := s3 g g2
      omega
    · have := d1.2.2 g hg
      have := d2.2.2.size
      have := b3.size
      omega
    · have := d1.2.2 g hg
      have := d2.2.2.size
      have := s3 g hs
      omega
  clear q3 s3 b3 D1 D2 NW RS VB
  obtain ⟨aa, ac, eva, hac, -, -⟩ := D3.out.a
  rw [ALN.out.2] at eva hac
  subst eva
  go_wp2_with fail
  refine (LE.out R1 S1 w3 D3.out.p.q1).mono ?_
  rintro e w4 ⟨rfl, rfl⟩
  clear LE
  go_wp2_with fail
  have CA : Hid (∀ S2 L w', O2 w R1 R2 S1 S2 (flT al M) L (.slice aa M ac) (.slice bo P bcap) al ss w' → ∀ i, i < M → ∃ g o, aa = some ⟨g, o, none⟩ ∧ w'.cell? ⟨g, o + i * 3, none⟩ = some (.int .i64 (kN al i).d) ∧ w'.cell? ⟨g, o + i * 3 + 1, none⟩ = some (.int .i64 (kN al i).l) ∧ w'.cell? ⟨g, o + i * 3 + 2, none⟩ = some (.int .i64 (kN al i).n)) := fun S2 L w' h i hi => by
    obtain ⟨g, o, e, x0, x1, x2, _⟩ := RdK.cells h.a hi
    exact ⟨g, o, e, x0, x1, x2⟩
  have CS : Hid (∀ S2 L w', O2 w R1 R2 S1 S2 (flT al M) L (.slice aa M ac) (.slice bo P bcap) al ss w' → ∀ i, i < P → ∃ g o, bo = some ⟨g, o, none⟩ ∧ w'.cell? ⟨g, o + i * 3, none⟩ = some (.int .i64 (kN ss i).d) ∧ w'.cell? ⟨g, o + i * 3 + 1, none⟩ = some (.int .i64 (kN ss i).l) ∧ w'.cell? ⟨g, o + i * 3 + 2, none⟩ = some (.int .i64 (kN ss i).n)) := fun S2 L w' h i hi => by
    obtain ⟨g, o, e, x0, x1, x2, _⟩ := RdK.cells h.s hi
    exact ⟨g, o, e, x0, x1, x2⟩
  go_loopw [8] (fun vi wr => ∃ (i : Nat) (c : Int) (S2 : Nat → Prop) (L : List (Ky × Int)), vi = .int .i64 c ∧ c = (i : Int) - 1 ∧ i ≤ M ∧ Hid (O2 w R1 R2 S1 S2 (flT al M) L (.slice aa M ac) (.slice bo P bcap) al ss wr ∧ Ia al i L ∧ Ib al ss i i L ∧ L.length + i ≤ M)) (fun vi _ => (intOf vi + 1).toNat)
  case atStart =>
    refine ⟨M, (M : Int) - 1, S2, [], by go_num, rfl, Nat.le_refl _, D3.out, fun x hx => by simp at hx, fun j h1 h2 => ?_, by simp⟩
    have := ALN.out.2
    omega
  case round =>
    obtain ⟨i, c, S2, L, rfl, hc, hi, D⟩ := hrel
    clear D3
    cases i with
    | zero =>
      have hneg : ¬ ((0 : Int) ≤ c) := by omega
      clear hc
      go_wp2_with fail
      have E0 : Hid (O2 w R1 R2 S1 S2 (flT al M) L (.slice aa M ac) (.slice bo P bcap) al ss wr ∧ Ia al 0 L ∧ Ib al ss 0 0 L ∧ L.length ≤ 300) := ⟨D.out.1, D.out.2.1, D.out.2.2.1, by have := D.out.2.2.2; omega⟩
      clear D
      have SA : Hid (∀ (a b : Ky) (w : World), Calls Try.prog 12 #[.agg #[.int .i64 a.d, .int .i64 a.l, .int .i64 a.n], .agg #[.int .i64 b.d, .int .i64 b.l, .int .i64 b.n]] w fun e w' => e = .returned (.bool (decide (a = b))) ∧ Below w.heap.size w w') := same_at
      go_loopw [14] (fun vi wr => ∃ (m : Nat) (S2 : Nat → Prop) (L : List (Ky × Int)), vi = .int .i64 (m : Int) ∧ m ≤ P ∧ m ≤ M ∧ Hid (O2 w R1 R2 S1 S2 (flT al M) L (.slice aa M ac) (.slice bo P bcap) al ss wr ∧ Ia al 0 L ∧ Ib al ss 0 m L ∧ L.length ≤ 300 + m * 301)) (fun vi _ => P - (intOf vi).toNat)
      case atStart => exact ⟨0, S2, L, rfl, by omega, by omega, E0.out⟩
      case round =>
        obtain ⟨m, S2, L, rfl, hmP, hmM, D⟩ := hrel
        clear E0
        have FIN : Hid (P ≤ m ∨ M ≤ m → (flT al M).Perm L) := fun hor => by
          have := ord_perm ALN.out.1 D.out.2.1 D.out.2.2.1 (by rw [HN.out.2, ALN.out.2]; exact hor) D.out.1.p.q2.nodup' (by rw [ALN.out.2]; exact D.out.1.p.q1.nodup')
          rw [ALN.out.2] at this
          exact this
        have TAIL : Hid (P ≤ m ∨ M ≤ m → Calls Try.prog 13 #[.pointer (some ⟨R1, 0, none⟩), .pointer (some ⟨R2, 0, none⟩)] wr fun e w' => e = .returned (.bool true) ∧ Below wr.heap.size wr w') := fun hor => alike_yes sort_ok R1 R2 S1 S2 (flT al M) L wr D.out.1.p.q1 D.out.1.p.q2 (FIN.out hor) (by rw [FLA.out.1]; omega)
        have TAIL2 : Hid (P ≤ m ∨ M ≤ m → ∀ w', Below wr.heap.size wr w' → Calls Try.prog 14 #[.pointer (some ⟨R1, 0, none⟩), .pointer (some ⟨R2, 0, none⟩)] w' fun e w2 => e = .returned (.bool true) ∧ Below w.heap.size w w2) := fun hor w' b => emptied_yes w R1 R2 S1 S2 (flT al M) L w' (D.out.1.p.below b) (FIN.out hor) (by rw [FLA.out.1]; omega) FLA.out.2
        by_cases hP1 : (m : Int) < (P : Int)
        · by_cases hM1 : (m : Int) < (M : Int)
          · have hmP1 : m < P := by omega
            have hmM1 : m < M := by omega
            clear FIN TAIL TAIL2
            obtain ⟨gs, os, rfl, x0, x1, x2⟩ := CS.out S2 L wr D.out.1 m hmP1
            by_cases hm : kN ss m ∈ L.map (·.1)
            · obtain ⟨⟨x', v⟩, hxv, hxe⟩ := List.mem_map.1 hm
              have HV : Hid ((kN ss m, v) ∈ L) := by rw [Hid, ← hxe]; exact hxv
              have E5 : Hid (Ib al ss 0 (m + 1) L) := D.out.2.1.here ALN.out.1 D.out.2.2.1 HV.out
              clear hm hxv hxe
              generalize kN ss m = x at *
              go_wp2_with fail
              refine (TQ.get_yes R2 S2 L wr x v D.out.1.p.q2 HV.out).mono ?_
              rintro e w5 ⟨rfl, b5⟩
              have D5 : Hid (O2 w R1 R2 S1 S2 (flT al M) L (.slice aa M ac) (.slice (some ⟨gs, os, none⟩) P bcap) al ss w5 ∧ Ia al 0 L ∧ Ib al ss 0 (m + 1) L ∧ L.length ≤ 300 + (m + 1) * 301) := ⟨D.out.1.below b5, D.out.2.1, E5.out, by have := D.out.2.2.2; omega⟩
              clear D b5 x0 x1 x2 E5 HV
              go_wp2_with fail
              go_roundw
              case rel => exact ⟨m + 1, S2, L, by go_num, by omega, by omega, D5.out⟩
              case measure => simp [intOf]; omega
            · have HV : Hid (kN ss m ∉ L.map (·.1)) := hm
              clear hm
              have J0 : Hid (Jn al ss m 0 L) := Jn.start D.out.2.1 D.out.2.2.1 HV.out
              obtain ⟨x, hx⟩ : ∃ x, kN ss m = x := ⟨_, rfl⟩
              have HX : Hid (kN ss m = x) := hx
              rw [hx] at x0 x1 x2 HV
              clear hx
              go_wp2_with fail
              refine (TQ.get_no R2 S2 L wr x D.out.1.p.q2 HV.out).mono ?_
              rintro e w5 ⟨rfl, b5⟩
              have D5 : Hid (O2 w R1 R2 S1 S2 (flT al M) L (.slice aa M ac) (.slice (some ⟨gs, os, none⟩) P bcap) al ss w5 ∧ Jn al ss m 0 L ∧ L.length ≤ 300 + m * 301 + 0) := ⟨D.out.1.below b5, J0.out, D.out.2.2.2⟩
              clear D b5 x0 x1 x2 J0 HV
              go_wp2_with fail
              go_loopw [17] (fun vj wr => ∃ (j : Nat) (S2 : Nat → Prop) (L : List (Ky × Int)), vj = .int .i64 (j : Int) ∧ j ≤ M ∧ Hid (O2 w R1 R2 S1 S2 (flT al M) L (.slice aa M ac) (.slice (some ⟨gs, os, none⟩) P bcap) al ss wr ∧ Jn al ss m j L ∧ L.length ≤ 300 + m * 301 + j)) (fun vj _ => M - (intOf vj).toNat)
              case atStart => exact ⟨0, S2, L, rfl, by omega, D5.out⟩
              case round =>
                obtain ⟨j, S2, L, rfl, hjM, D⟩ := hrel
                clear D5
                by_cases hjl : (j : Int) < (M : Int)
                · have hjM1 : j < M := by omega
                  obtain ⟨ga, oa, rfl, y0, y1, y2⟩ := CA.out S2 L wr D.out.1 j hjM1
                  obtain ⟨gs', os', hgs, x0, x1, x2⟩ := CS.out S2 L wr D.out.1 m hmP1
                  cases hgs
                  rw [HX.out] at x0 x1 x2
                  have S0 : Hid (K7 wr ga (oa + j * 3) gs (os + m * 3) (kN al j) x wr.drew) := ⟨Below.drew (Below.refl _ _), y0, y1, y2, x0, x1, x2⟩
                  have SAj : Hid (∀ w, Calls Try.prog 12 #[.agg #[.int .i64 (kN al j).d, .int .i64 (kN al j).l, .int .i64 (kN al j).n], .agg #[.int .i64 x.d, .int .i64 x.l, .int .i64 x.n]] w fun e w' => e = .returned (.bool (decide (kN al j = x))) ∧ Below w.heap.size w w') := fun w => SA.out _ _ w
                  clear y0 y1 y2 x0 x1 x2
                  by_cases hsm : kN al j = x
                  · rw [decide_eq_true hsm] at SAj
                    have JY : Hid (Jn al ss m (j + 1) ((kN al j, (j : Int)) :: L) ∧ kN al j ∉ L.map (·.1)) := ⟨D.out.2.1.yes ALN.out.1 (by rw [ALN.out.2]; exact hjM1) (by rw [HX.out]; exact hsm), D.out.2.1.c j (Nat.le_refl _) (by rw [ALN.out.2]; exact hjM1) (by rw [HX.out]; exact hsm)⟩
                    clear hsm
                    have RC : Hid (∀ S2 L w', O2 w R1 R2 S1 S2 (flT al M) L (.slice (some ⟨ga, oa, none⟩) M ac) (.slice (some ⟨gs, os, none⟩) P bcap) al ss w' → w'.cell? ⟨ga, oa + j * 3, none⟩ = some (.int .i64 (kN al j).d) ∧ w'.cell? ⟨ga, oa + j * 3 + 1, none⟩ = some (.int .i64 (kN al j).l) ∧ w'.cell? ⟨ga, oa + j * 3 + 2, none⟩ = some (.int .i64 (kN al j).n)) := fun S2 L w' h => by
                      obtain ⟨g', o', e, h1⟩ := CA.out S2 L w' h j hjM1
                      cases e
                      exact h1
                    generalize kN al j = y at *
                    go_upto_region 30 with fail
                    go_region_held3 (fun w' => K7 wr ga (oa + j * 3) gs (os + m * 3) y x w') (first | assumption | exact S0.out | exact K7.keep hU (by assumption)) (first
                      | (go_at_call 12; refine (SAj.out _).mono ?_; rintro e w6 ⟨rfl, hU⟩))
                    have b6 : Below wr.heap.size wr w6 := And.left (show K7 wr ga (oa + j * 3) gs (os + m * 3) y x w6 by assumption)
                    have D6 : Hid (O2 w R1 R2 S1 S2 (flT al M) L (.slice (some ⟨ga, oa, none⟩) M ac) (.slice (some ⟨gs, os, none⟩) P bcap) al ss w6 ∧ L.length ≤ 300 + m * 301 + j) := ⟨D.out.1.below b6, D.out.2.2⟩
                    clear D b6 hU S0 SAj
                    obtain ⟨y0, y1, y2⟩ := RC.out _ _ _ D6.out.1
                    go_wp2_with fail
                    refine (TQ.put_yes R2 S2 L w6 y (j : Int) D6.out.1.p.q2 (by have := D6.out.2; omega) JY.out.2).mono ?_
                    rintro e w7 ⟨rfl, h7⟩
                    obtain ⟨S3, hO7⟩ := D6.out.1.right h7
                    have D7 : Hid (O2 w R1 R2 S1 S3 (flT al M) ((y, (j : Int)) :: L) (.slice (some ⟨ga, oa, none⟩) M ac) (.slice (some ⟨gs, os, none⟩) P bcap) al ss w7 ∧ Jn al ss m (j + 1) ((y, (j : Int)) :: L) ∧ ((y, (j : Int)) :: L).length ≤ 300 + m * 301 + (j + 1)) := ⟨hO7, JY.out.1, by have := D6.out.2; simp; omega⟩
                    clear D6 h7 hO7 y0 y1 y2 JY RC
                    go_wp2_with fail
                    go_roundw
                    case rel => exact ⟨j + 1, S3, (y, (j : Int)) :: L, by go_num, by omega, D7.out⟩
                    case measure => simp [intOf]; omega
                  · rw [decide_eq_false hsm] at SAj
                    have JY : Hid (Jn al ss m (j + 1) L) := D.out.2.1.no (by rw [HX.out]; exact hsm)
                    clear hsm
                    generalize kN al j = y at *
                    go_upto_region 30 with fail
                    go_region_held3 (fun w' => K7 wr ga (oa + j * 3) gs (os + m * 3) y x w') (first | assumption | exact S0.out | exact K7.keep hU (by assumption)) (first
                      | (go_at_call 12; refine (SAj.out _).mono ?_; rintro e w6 ⟨rfl, hU⟩))
                    have b6 : Below wr.heap.size wr w6 := And.left (show K7 wr ga (oa + j * 3) gs (os + m * 3) y x w6 by assumption)
                    have D6 : Hid (O2 w R1 R2 S1 S2 (flT al M) L (.slice (some ⟨ga, oa, none⟩) M ac) (.slice (some ⟨gs, os, none⟩) P bcap) al ss w6 ∧ Jn al ss m (j + 1) L ∧ L.length ≤ 300 + m * 301 + (j + 1)) := ⟨D.out.1.below b6, JY.out, by have := D.out.2.2; omega⟩
                    clear D b6 hU S0 SAj JY
                    go_wp2_with fail
                    go_roundw
                    case rel => exact ⟨j + 1, S2, L, by go_num, by omega, D6.out⟩
                    case measure => simp [intOf]; omega
                · have ej : j = M := by omega
                  subst ej
                  have D6 : Hid (O2 w R1 R2 S1 S2 (flT al j) L (.slice aa j ac) (.slice (some ⟨gs, os, none⟩) P bcap) al ss wr ∧ Ia al 0 L ∧ Ib al ss 0 (m + 1) L ∧ L.length ≤ 300 + (m + 1) * 301) := by
                    have jn := D.out.2.1
                    refine ⟨D.out.1, jn.a, Jn.stop (by rw [ALN.out.2]; exact jn), by have := D.out.2.2; omega⟩
                  clear D
                  go_wp2_with fail
                  go_roundw
                  case rel => exact ⟨m + 1, S2, L, by go_num, by omega, by omega, D6.out⟩
                  case measure => simp [intOf]; omega
          · have hor : P ≤ m ∨ M ≤ m := by omega
            have T1 := TAIL.out hor
            have T2 := TAIL2.out hor
            have H1 : Hid (Calls Try.prog 13 #[.pointer (some ⟨R1, 0, none⟩), .pointer (some ⟨R2, 0, none⟩)] wr fun e w' => e = .returned (.bool true) ∧ Below wr.heap.size wr w') := T1
            have H2 : Hid (∀ w', Below wr.heap.size wr w' → Calls Try.prog 14 #[.pointer (some ⟨R1, 0, none⟩), .pointer (some ⟨R2, 0, none⟩)] w' fun e w2 => e = .returned (.bool true) ∧ Below w.heap.size w w2) := T2
            clear T1 T2 TAIL TAIL2 FIN D hor
            go_wp2_with fail
            refine H1.out.mono ?_
            rintro e w5 ⟨rfl, b5⟩
            have B5 : Hid (Below wr.heap.size wr w5) := b5
            clear b5 H1
            go_wp2_with fail
            refine (H2.out w5 B5.out).mono ?_
            rintro e w6 ⟨rfl, b6⟩
            have B6 : Hid (Below w.heap.size w w6) := b6
            clear b6 B5 H2
            go_wp2_with fail
            go_ret
            exact ⟨rfl, B6.out⟩
        · have hor : P ≤ m ∨ M ≤ m := by omega
          have T1 := TAIL.out hor
          have T2 := TAIL2.out hor
          have H1 : Hid (Calls Try.prog 13 #[.pointer (some ⟨R1, 0, none⟩), .pointer (some ⟨R2, 0, none⟩)] wr fun e w' => e = .returned (.bool true) ∧ Below wr.heap.size wr w') := T1
          have H2 : Hid (∀ w', Below wr.heap.size wr w' → Calls Try.prog 14 #[.pointer (some ⟨R1, 0, none⟩), .pointer (some ⟨R2, 0, none⟩)] w' fun e w2 => e = .returned (.bool true) ∧ Below w.heap.size w w2) := T2
          clear T1 T2 TAIL TAIL2 FIN D hor
          go_wp2_with fail
          refine H1.out.mono ?_
          rintro e w5 ⟨rfl, b5⟩
          have B5 : Hid (Below wr.heap.size wr w5) := b5
          clear b5 H1
          go_wp2_with fail
          refine (H2.out w5 B5.out).mono ?_
          rintro e w6 ⟨rfl, b6⟩
          have B6 : Hid (Below w.heap.size w w6) := b6
          clear b6 B5 H2
          go_wp2_with fail
          go_ret
          exact ⟨rfl, B6.out⟩
    | succ i =>
      have ec : c = (i : Int) := by omega
      subst ec
      clear hc
      have hi0 : (0 : Int) ≤ (i : Int) := by omega
      have hiM : i < M := by omega
      go_upto_if 55 with fail
      go_cut [55] from 48 to 108 (fun v55 wx => ∃ S2 L, Hid (O2 w R1 R2 S1 S2 (flT al M) L (.slice aa M ac) (.slice bo P bcap) al ss wx ∧ Ia al (i + 1) L ∧ Ib al ss (i + 1) i L ∧ L.length + (i + 1) ≤ M))
      case first =>
        by_cases hs : (i : Int) < (P : Int)
        · have hiP : i < P := by omega
          obtain ⟨gs, os, rfl, x0, x1, x2⟩ := CS.out S2 L wr D.out.1 i hiP
          have AFT : Hid (∀ L', (∀ y ∈ L', y ∈ L) → (∀ y ∈ L, y ∈ L' ∨ y.1 = kN ss i) → L'.length ≤ L.length → Ia al (i + 1) L' ∧ Ib al ss (i + 1) i L' ∧ L'.length + (i + 1) ≤ M) := fun L' h1 h2 h3 => ⟨D.out.2.1.drop h1, D.out.2.2.1.drop (by rw [HN.out.2]; exact hiP) (by rw [ALN.out.2]; exact hiM) h2, by have := D.out.2.2.2; omega⟩
          have LL : Hid (L.length ≤ 300) := by have := D.out.2.2.2; show _ ≤ _; omega
          by_cases hm : kN ss i ∈ L.map (·.1)
          · obtain ⟨⟨x', v⟩, hxv, hxe⟩ := List.mem_map.1 hm
            have HV : Hid ((kN ss i, v) ∈ L ∧ kN ss i ∈ L.map (·.1)) := ⟨by rw [← hxe]; exact hxv, hm⟩
            clear hm hxv hxe
            have RC : Hid (∀ S2 L w', O2 w R1 R2 S1 S2 (flT al M) L (.slice aa M ac) (.slice (some ⟨gs, os, none⟩) P bcap) al ss w' → w'.cell? ⟨gs, os + i * 3, none⟩ = some (.int .i64 (kN ss i).d) ∧ w'.cell? ⟨gs, os + i * 3 + 1, none⟩ = some (.int .i64 (kN ss i).l) ∧ w'.cell? ⟨gs, os + i * 3 + 2, none⟩ = some (.int .i64 (kN ss i).n)) := fun S2 L w' h => by
              obtain ⟨g', o', e, h1⟩ := CS.out S2 L w' h i hiP
              cases e
              exact h1
            generalize kN ss i = x at *
            go_wp2_with fail
            refine (TQ.put_no R2 S2 L wr x (-5) D.out.1.p.q2 HV.out.2).mono ?_
            rintro e w5 ⟨rfl, h5⟩
            obtain ⟨S3, hO5⟩ := D.out.1.right h5
            have D5 : Hid (O2 w R1 R2 S1 S3 (flT al M) L (.slice aa M ac) (.slice (some ⟨gs, os, none⟩) P bcap) al ss w5) := hO5
            clear D h5 hO5 x0 x1 x2
            obtain ⟨x0, x1, x2⟩ := RC.out _ _ _ D5.out
            go_wp2_with fail
            refine (TQ.cancel_yes R2 S3 L w5 x v D5.out.p.q2 (by have := LL.out; omega) HV.out.1).mono ?_
            rintro e w6 ⟨rfl, L', p6, q6, k6⟩
            obtain ⟨S4, hO6⟩ := D5.out.right (TQ.QPost.of_kp q6 k6)
            have D6 : Hid (O2 w R1 R2 S1 S4 (flT al M) L' (.slice aa M ac) (.slice (some ⟨gs, os, none⟩) P bcap) al ss w6 ∧ Ia al (i + 1) L' ∧ Ib al ss (i + 1) i L' ∧ L'.length + (i + 1) ≤ M) := ⟨hO6, AFT.out L' (fun y hy => p6.mem_iff.2 (by simp [hy])) (fun y hy => by
              rcases List.mem_cons.1 (p6.mem_iff.1 hy) with rfl | h
              · exact .inr rfl
              · exact .inl h) (by have := p6.length_eq; simp at this; omega)⟩
            clear D5 p6 q6 k6 hO6 x0 x1 x2
            go_wp2_with fail
            go_meet
            exact ⟨S4, L', D6.out⟩
          · have HV : Hid (kN ss i ∉ L.map (·.1)) := hm
            clear hm
            have RC : Hid (∀ S2 L w', O2 w R1 R2 S1 S2 (flT al M) L (.slice aa M ac) (.slice (some ⟨gs, os, none⟩) P bcap) al ss w' → w'.cell? ⟨gs, os + i * 3, none⟩ = some (.int .i64 (kN ss i).d) ∧ w'.cell? ⟨gs, os + i * 3 + 1, none⟩ = some (.int .i64 (kN ss i).l) ∧ w'.cell? ⟨gs, os + i * 3 + 2, none⟩ = some (.int .i64 (kN ss i).n)) := fun S2 L w' h => by
              obtain ⟨g', o', e, h1⟩ := CS.out S2 L w' h i hiP
              cases e
              exact h1
            generalize kN ss i = x at *
            go_wp2_with fail
            refine (TQ.put_yes R2 S2 L wr x (-5) D.out.1.p.q2 (by have := LL.out; omega) HV.out).mono ?_
            rintro e w5 ⟨rfl, h5⟩
            obtain ⟨S3, hO5⟩ := D.out.1.right h5
            have D5 : Hid (O2 w R1 R2 S1 S3 (flT al M) ((x, -5) :: L) (.slice aa M ac) (.slice (some ⟨gs, os, none⟩) P bcap) al ss w5) := hO5
            clear D h5 hO5 x0 x1 x2
            obtain ⟨x0, x1, x2⟩ := RC.out _ _ _ D5.out
            go_wp2_with fail
            refine (TQ.cancel_yes R2 S3 ((x, -5) :: L) w5 x (-5) D5.out.p.q2 (by have := LL.out; simp; omega) (by simp)).mono ?_
            rintro e w6 ⟨rfl, L', p6, q6, k6⟩
            have p7 := (List.perm_cons (x, (-5 : Int))).1 p6
            obtain ⟨S4, hO6⟩ := D5.out.right (TQ.QPost.of_kp q6 k6)
            have D6 : Hid (O2 w R1 R2 S1 S4 (flT al M) L' (.slice aa M ac) (.slice (some ⟨gs, os, none⟩) P bcap) al ss w6 ∧ Ia al (i + 1) L' ∧ Ib al ss (i + 1) i L' ∧ L'.length + (i + 1) ≤ M) := ⟨hO6, AFT.out L' (fun y hy => p7.mem_iff.2 hy) (fun y hy => .inl (p7.mem_iff.1 hy)) (Nat.le_of_eq p7.length_eq.symm)⟩
            clear D5 p6 p7 q6 k6 hO6 x0 x1 x2
            go_wp2_with fail
            go_meet
            exact ⟨S4, L', D6.out⟩
        · go_wp2_with fail
          go_meet
          exact ⟨S2, L, D.out.1, D.out.2.1, D.out.2.2.1.weak, D.out.2.2.2⟩
      case rest =>
        refine Exists.elim hcut (fun S2 hcut => Exists.elim hcut (fun L D => ?_))
        obtain ⟨ga, oa, rfl, x0, x1, x2⟩ := CA.out S2 L wc D.out.1 i hiM
        have RC : Hid (∀ S2 L w', O2 w R1 R2 S1 S2 (flT al M) L (.slice (some ⟨ga, oa, none⟩) M ac) (.slice bo P bcap) al ss w' → w'.cell? ⟨ga, oa + i * 3, none⟩ = some (.int .i64 (kN al i).d) ∧ w'.cell? ⟨ga, oa + i * 3 + 1, none⟩ = some (.int .i64 (kN al i).l) ∧ w'.cell? ⟨ga, oa + i * 3 + 2, none⟩ = some (.int .i64 (kN al i).n)) := fun S2 L w' h => by
          obtain ⟨g', o', e, h1⟩ := CA.out S2 L w' h i hiM
          cases e
          exact h1
        have FR : Hid (kN al i ∉ L.map (·.1)) := D.out.2.1.fresh ALN.out.1 (by rw [ALN.out.2]; exact hiM)
        have LL : Hid (L.length ≤ 300) := by have := D.out.2.2.2; show _ ≤ _; omega
        have FN : Hid (∀ L', L'.Perm L → Ia al i ((kN al i, (i : Int)) :: L') ∧ Ib al ss i i ((kN al i, (i : Int)) :: L') ∧ ((kN al i, (i : Int)) :: L').length + i ≤ M) := fun L' hp => by
          refine ⟨Ia.add (D.out.2.1.drop (fun y hy => hp.mem_iff.1 hy)) (by rw [ALN.out.2]; exact hiM), Ib.add (fun j h1 h2 => ?_), ?_⟩
          · rcases D.out.2.2.1 j h1 h2 with h3 | h3
            · exact .inl (hp.mem_iff.2 h3)
            · exact .inr h3
          · have := hp.length_eq
            have := D.out.2.2.2
            simp
            omega
        have D0 : Hid (O2 w R1 R2 S1 S2 (flT al M) L (.slice (some ⟨ga, oa, none⟩) M ac) (.slice bo P bcap) al ss wc) := D.out.1
        clear D CA CS hcut
        generalize kN al i = x at *
        go_wp2_with fail
        refine (TQ.get_no R2 S2 L wc x D0.out.p.q2 FR.out).mono ?_
        rintro e w5 ⟨rfl, b5⟩
        have D5 : Hid (O2 w R1 R2 S1 S2 (flT al M) L (.slice (some ⟨ga, oa, none⟩) M ac) (.slice bo P bcap) al ss w5) := D0.out.below b5
        clear D0 b5 x0 x1 x2
        obtain ⟨x0, x1, x2⟩ := RC.out _ _ _ D5.out
        go_wp2_with fail
        refine (TQ.put_yes R2 S2 L w5 x (70000 + (i : Int)) D5.out.p.q2 (by have := LL.out; omega) FR.out).mono ?_
        rintro e w6 ⟨rfl, h6⟩
        obtain ⟨S3, hO6⟩ := D5.out.right h6
        have D6 : Hid (O2 w R1 R2 S1 S3 (flT al M) ((x, 70000 + (i : Int)) :: L) (.slice (some ⟨ga, oa, none⟩) M ac) (.slice bo P bcap) al ss w6) := hO6
        clear D5 h6 hO6 x0 x1 x2
        obtain ⟨x0, x1, x2⟩ := RC.out _ _ _ D6.out
        go_wp2_with fail
        refine (TQ.cancel_yes R2 S3 ((x, 70000 + (i : Int)) :: L) w6 x (70000 + (i : Int)) D6.out.p.q2 (by have := LL.out; simp; omega) (by simp)).mono ?_
        rintro e w7 ⟨rfl, L', p7, q7, k7⟩
        have p8 := (List.perm_cons (x, 70000 + (i : Int))).1 p7
        obtain ⟨S4, hO7⟩ := D6.out.right (TQ.QPost.of_kp q7 k7)
        have D7 : Hid (O2 w R1 R2 S1 S4 (flT al M) L' (.slice (some ⟨ga, oa, none⟩) M ac) (.slice bo P bcap) al ss w7 ∧ L'.Perm L) := ⟨hO7, p8.symm⟩
        clear D6 p7 p8 q7 k7 hO7 x0 x1 x2
        obtain ⟨x0, x1, x2⟩ := RC.out _ _ _ D7.out.1
        go_wp2_with fail
        refine (TQ.put_yes R2 S4 L' w7 x (i : Int) D7.out.1.p.q2 (by have := LL.out; have := D7.out.2.length_eq; omega) (fun hm => FR.out (((D7.out.2.map (·.1)).mem_iff).1 hm))).mono ?_
        rintro e w8 ⟨rfl, h8⟩
        obtain ⟨S5, hO8⟩ := D7.out.1.right h8
        have D8 : Hid (O2 w R1 R2 S1 S5 (flT al M) ((x, (i : Int)) :: L') (.slice (some ⟨ga, oa, none⟩) M ac) (.slice bo P bcap) al ss w8 ∧ Ia al i ((x, (i : Int)) :: L') ∧ Ib al ss i i ((x, (i : Int)) :: L') ∧ ((x, (i : Int)) :: L').length + i ≤ M) := ⟨hO8, FN.out L' D7.out.2⟩
        clear D7 h8 hO8 x0 x1 x2 FN FR RC LL
        go_wp2_with fail
        go_roundw
        case rel => exact ⟨i, (i : Int) - 1, S5, (x, (i : Int)) :: L', by go_num, rfl, by omega, D8.out⟩
        case measure => first | (simp [intOf]; done) | (simp [intOf]; omega)
end Go.Proofs.Ytfdehlfhnlgcjaa
