/-
  Ours: debits equal credits, whatever is posted or refused: LedgerBalanced.
-/
import Derived.Test.YtkmmpffkmoaceabDoorLedKept
import Derived.Test.YtkmmpffkmoaceabDoorLedEven
import Derived.Test.YtkmmpffkmoaceabDoorLedWhole
import Derived.Test.YtkmmpffkmoaceabDoorLedTrial
import Derived.Test.YtkmmpffkmoaceabDoorLedOne
import Derived.Test.YtkmmpffkmoaceabDoorLedUnd
import Derived.Deep.CutRange
import Derived.Deep.RegionWith
namespace Go.Proofs.YtkmmpffkmoaceabDoor
open Go.RowKit LedM

/-- A book written over another. -/
theorem step_over {ops : Array Oper} {rest : List Oper} {op : Oper} {a : Act} {w wr : World} {Q : Exit → Act → World → Prop} {bs : List (Nat × List Int)} (hK : Kept w bs wr) (i : Nat) {G : Nat} {b : List Int} (hi : bs[i]? = some (G, b)) (l : List Int) (hl : l.length = 12) (hgd : op.guard = none) (x y : Operand) (ho : op.op = .store 24 x y)
    (hx : a.eval x = .pointer (some ⟨G, 0, none⟩)) (hy : a.eval y = .agg (bkL l).toArray)
    (h : ∀ w', Kept w [(G, l)] w' → wpList Tryd.prog ops Q rest (a.put op.dst undef) w') : wpList Tryd.prog ops Q (op :: rest) a wr := by
  obtain ⟨lb, nb0⟩ := hK.at i hi
  have hG := (hK.bk _ (List.mem_of_getElem? hi)).1
  refine step_store hgd 24 x y ho G 0 24 (bkL b) (bkL l) hx hy nb0 (by rw [bkL_len, bkL_len, hl, lb]; exact Nat.le_refl _) (infoBl hl) (bkL_one _) ?_
  intro w' nb g
  rw [store_all (by rw [bkL_len, bkL_len, hl, lb])] at nb
  exact h w' ⟨below_row hK.bb g hG, fun p hp => by simp at hp; subst hp; exact ⟨hG, hl, nb⟩⟩

set_option maxRecDepth 20000 in
set_option maxHeartbeats 8000000 in
theorem balanced_any (ess : List (List Ent)) (v : Value) (w : World) (h : RdLL w v ess) (ok : ∀ es ∈ ess, ∀ e ∈ es, EntOk e) (hn : ess.length ≤ 1048576) (hm : ∀ es ∈ ess, es.length ≤ 1048576) (hT : TabD w) :
    Calls Tryd.prog 6 #[v] w fun e w' => e = .returned (.bool true) ∧ Below w.heap.size w w' := by
  have PS : Hid (∀ w', Below w.heap.size w w' → Calls Tryd.prog 11 #[] w' fun e w2 => e = .returned (.bool true) ∧ Below w'.heap.size w' w2) := fun w' hb => posts_at w' (hT.later hb)
  have PO : Hid (∀ b es v' w', BkOk b → Below w.heap.size w w' → RdE w' v' es → (∀ e ∈ es, EntOk e) → es.length ≤ 1048576 → Calls Tryd.prog 8 #[.agg (bkL b).toArray, v'] w' fun e w2 => e = .returned (.tuple #[.agg (bkL (postB b es)).toArray, .int .i64 (postE b es)]) ∧ Below w'.heap.size w' w2) := fun b es v' w' hb hw hr ho hl => post_at b es v' w' hb ho (by omega) hr (hT.later hw)
  have RV : Hid (∀ w' v' fs, RdE w' v' fs → fs.length ≤ 1048576 → Calls Tryd.prog 12 #[v'] w' fun e w2 => ∃ v2, e = .returned v2 ∧ RowE w'.heap.size w2 v2 (revE fs) ∧ Below w'.heap.size w' w2) := fun w' v' fs hr h => rev_at fs v' w' (by omega) hr
  have SM : Hid (∀ (m : List Int) (w' : World), m.length = 12 → Calls Tryd.prog 9 #[.agg (bkL m).toArray, .agg (bkL m).toArray] w' fun e w2 => e = .returned (.bool true) ∧ Below w'.heap.size w' w2) := fun m w' hm => by have := same_at m m w' hm hm; rwa [decide_eq_true rfl] at this
  have TR : Hid (∀ b (w' : World), BkOk b → Calls Tryd.prog 17 #[.agg (bkL b).toArray] w' fun e w2 => e = .returned (trV b) ∧ Below w'.heap.size w' w2) := fun b w' hb => trial_at b w' hb
  have PL : Hid (∀ s k hh ll x (w' : World), WhIs s k hh ll → k ≤ 12 → i64 x → Calls Tryd.prog 18 #[.agg #[.int .i64 hh, .int .i64 ll], .int .i64 x] w' fun e w2 => e = .returned (.agg #[.int .i64 (whH hh x), .int .i64 (whL ll x)]) ∧ Below w'.heap.size w' w2) := fun s k hh ll x w' h1 h2 h3 => plus_at s k hh ll x w' h1 (by omega) h3
  have NO : Hid (∀ s k hh ll (w' : World), WhIs s k hh ll → k ≤ 12 → Calls Tryd.prog 19 #[.agg #[.int .i64 hh, .int .i64 ll]] w' fun e w2 => e = .returned (.bool (decide (s = 0))) ∧ Below w'.heap.size w' w2) := fun s k hh ll w' h1 h2 => nothing_at s k hh ll w' h1 (by omega)
  have OS : Hid (∀ b w', BkOk b → Below w.heap.size w w' → Calls Tryd.prog 10 #[.agg (bkL b).toArray] w' fun e w2 => e = .returned (.bool (sidesB b)) ∧ Below w'.heap.size w' w2) := fun b w' hb hw => ownSide_at b w' hb (hT.later hw)
  have RD : Hid (∀ w', Below w.heap.size w w' → RdLL w' v ess) := fun w' hb => h.later hb
  obtain ⟨ao, cap, rfl, _⟩ := h
  obtain ⟨L, hL⟩ : ∃ L, ess.length = L := ⟨_, rfl⟩
  have CE : Hid (∀ w', Below w.heap.size w w' → ∀ i, i < L → ∃ g o a c, ao = some ⟨g, o, none⟩ ∧ w'.cell? ⟨g, o + i, none⟩ = some (.slice a (ess.getD i []).length c) ∧ RdE w' (.slice a (ess.getD i []).length c) (ess.getD i [])) := fun w' hb i hi => by
    obtain ⟨ao', cap', e, H⟩ := RD.out w' hb
    injection e with e1 e2 e3
    subst e1
    obtain ⟨g, o, a, c, e, _, r, rd⟩ := H i (by omega)
    exact ⟨g, o, a, c, e, r, rd⟩
  have ME : Hid (∀ i, i < L → (∀ e ∈ ess.getD i [], EntOk e) ∧ (ess.getD i []).length ≤ 1048576) := fun i hi => by
    have hm' : ess.getD i [] ∈ ess := by rw [List.getD_eq_getElem?_getD, List.getElem?_eq_getElem (by omega)]; exact List.getElem_mem _
    exact ⟨ok _ hm', hm _ hm'⟩
  rw [hL] at hn ⊢
  clear hT RD ok hm hL
  have KP0 : Hid (Kept w [] w) := Kept.none w
  go_enter Tryd.func6, Tryd.ntmps6
  go_wp2_with fail
  refine (PS.out _ KP0.out.bb).mono ?_
  rintro e w1 ⟨rfl, b1⟩
  have KP : Hid (Kept w [(w1.heap.size, zeroL)] (w1.alloc (.cells (bkL zeroL).toArray 24))) := by
    have k1 := KP0.out.call b1
    exact ⟨(k1.alloc _).bb, fun p hp => by simp at hp; subst hp; exact ⟨k1.bb.size, rfl, Blk.new 24 (bkL zeroL) w1⟩⟩
  clear KP0 b1 PS
  obtain ⟨B3, hB3⟩ : ∃ B3, w1.heap.size = B3 := ⟨_, rfl⟩
  have HB3 : Hid (w1.heap.size = B3) := hB3
  clear hB3
  go_wp2_with fail
  rw [HB3.out]
  rw [HB3.out] at KP
  go_loopw [4, 5, 6, 7, 8, 9, 10, 11, 12] (fun vk _ _ _ _ _ _ _ _ wr => ∃ (k : Nat) (b : List Int), vk = .int .i64 (k : Int) ∧ k ≤ L ∧ Hid (BkOk b) ∧ Hid (total b = 0) ∧ Hid (sidesB b = true) ∧ Kept w [(B3, b)] wr) (fun vk _ _ _ _ _ _ _ _ _ => L - (intOf vk).toNat)
  case atStart => exact ⟨0, zeroL, rfl, by omega, zero_ok, (show total zeroL = 0 from rfl), (show sidesB zeroL = true by decide +kernel), KP.out⟩
  case round =>
    clear KP
    obtain ⟨k, b, rfl, hk, OB, TB, SB, kp⟩ := hrel
    have KP : Hid (Kept w [(B3, b)] wr) := kp
    by_cases hlt : (k : Int) < (L : Int)
    · obtain ⟨g, o, xa, xc, rfl, cx, rx⟩ := CE.out wr kp.bb k (by omega)
      have MX := ME.out k (by omega)
      have hk2 : Hid ((k : Int) % 3 = 2 → 1 ≤ k) := fun h => by omega
      clear kp
      by_cases hq3 : (k : Int) % 3 = 2
      · have hq : ((k : Int) % 3 == 2) = true := beq_iff_eq.2 hq3
        obtain ⟨k', rfl⟩ : ∃ k', k = k' + 1 := ⟨k - 1, by omega⟩
        have ek : ((k' + 1 : Nat) : Int) - 1 = (k' : Int) := by omega
        have hk' : (k' : Int) < (L : Int) := by omega
        obtain ⟨g', o', ya, yc, e', cy, ry⟩ := CE.out wr KP.out.bb k' (by omega)
        cases e'
        have MY := ME.out k' (by omega)
        have RY : Hid (RdE wr (.slice ya (ess.getD k' []).length yc) (ess.getD k' [])) := ry
        have MY' : Hid ((∀ e ∈ ess.getD k' [], EntOk e) ∧ (ess.getD k' []).length ≤ 1048576) := MY
        generalize ess.getD k' [] = ys at *
        generalize ess.getD (k' + 1) [] = xs at *
        clear rx MX hq3 hk2 CE ME ry MY
        go_wp2_with fail
        refine (RV.out _ _ ys RY.out MY'.out.2).mono ?_
        rintro e w2 ⟨va, rfl, ra, ba⟩
        have RE : Hid (RdE w2 va (revE ys)) := ra.rd
        have OKE : Hid (∀ e ∈ revE ys, EntOk e) := ok_rev MY'.out.1
        have LE : Hid ((revE ys).length ≤ 1048576) := by show _ ≤ _; rw [revE_len]; exact MY'.out.2
        have KP' : Kept w _ w2 := KP.out.call ba
        clear KP ra ba RY MY'
        have KP : Hid (Kept w [(B3, b)] w2) := KP'
        clear KP'
        generalize revE ys = es at *
        go_wp2_with (first
          | (refine step_get KP.out 0 rfl rfl _ rfl rfl ?_))
        refine (PO.out b es _ _ OB.out KP.out.bb RE.out OKE.out LE.out).mono ?_
        rintro e w3 ⟨rfl, b3⟩
        have KP' : Kept w _ w3 := KP.out.call b3
        clear KP b3 RE OKE LE RV
        have KP : Hid (Kept w [(B3, b)] w3) := KP'
        clear KP'
        have OP : Hid (BkOk (postB b es)) := postB_ok OB.out
        have TP : Hid (total (postB b es) = 0) := (total_post OB.out.1).trans TB.out
        have SP : Hid (sidesB (postB b es) = true) := sides_post SB.out
        have NP : Hid (postE b es ≠ 0 → postB b es = b) := postB_no
        generalize postB b es = pb at *
        generalize postE b es = E at *
        by_cases hE : E = 0
        · subst hE
          clear NP
          go_upto_region 13 with (first
          | (refine step_put KP.out pb OP.out.1 rfl _ _ rfl rfl rfl ?_; clear KP; intro w4 KP'; intro _; have KP : Hid (Kept _ _ _) := KP'; clear KP'))
          go_wp2_with (first
            | (refine step_get KP.out 0 rfl rfl _ rfl rfl ?_)
            | (refine step_over KP.out 1 rfl pb OP.out.1 rfl _ _ rfl rfl rfl ?_; clear KP; intro w6 KP'; have KP : Hid (Kept _ _ _) := KP'; clear KP'))
          have NW : Hid (Blk w6.heap.size 44 [.int .i64 0, .int .i64 0] (w6.alloc (.cells #[.int .i64 0, .int .i64 0] 44))) := Blk.new 44 [.int .i64 0, .int .i64 0] w6
          have KW : Hid (Kept w [(B3, pb)] (w6.alloc (.cells #[.int .i64 0, .int .i64 0] 44)) ∧ B3 < w6.heap.size ∧ w.heap.size ≤ w6.heap.size) := ⟨KP.out.alloc _, KP.out.lt (B3, pb) (by simp), KP.out.bb.size⟩
          obtain ⟨G8, HG8⟩ : ∃ G8, Hid (w6.heap.size = G8) := ⟨_, rfl⟩
          rw [HG8.out] at NW KW ⊢
          generalize w6.alloc (.cells #[.int .i64 0, .int .i64 0] 44) = w7 at *
          clear KP
          go_loopw [9] (fun vj wx => ∃ (j : Nat) (hh ll : Int), vj = .int .i64 (j : Int) ∧ j ≤ 12 ∧ Hid (WhIs (total (pb.take j)) j hh ll) ∧ Blk G8 44 [.int .i64 hh, .int .i64 ll] wx ∧ Kept w [(B3, pb)] wx) (fun vj _ => 12 - (intOf vj).toNat)
          case atStart => exact ⟨0, 0, 0, rfl, by omega, (show WhIs (total (pb.take 0)) 0 0 0 from wh_zero), NW.out, KW.out.1⟩
          case round =>
            obtain ⟨j, hh, ll, rfl, hj, WI, nw, kw⟩ := hrel
            by_cases hjl : (j : Int) < 12
            · have PX : Hid (∀ w' : World, Calls Tryd.prog 18 #[.agg #[.int .i64 hh, .int .i64 ll], .int .i64 (pb.getD j 0)] w' fun e w2 => e = .returned (.agg #[.int .i64 (whH hh (pb.getD j 0)), .int .i64 (whL ll (pb.getD j 0))]) ∧ Below w'.heap.size w' w2) := fun w' => PL.out _ _ _ _ _ w' WI.out hj (OP.out.2 j)
              have WN : Hid (WhIs (total (pb.take (j + 1))) (j + 1) (whH hh (pb.getD j 0)) (whL ll (pb.getD j 0))) := by
                have := wh_plus WI.out (OP.out.2 j)
                show WhIs _ _ _ _
                rw [total_take_succ pb j (by have := OP.out.1; omega)]; exact this
              have SC : Hid (∀ w', Below wr.heap.size wr w' → w'.cell? ⟨G8, 0, none⟩ = some (.int .i64 hh) ∧ w'.cell? ⟨G8, 1, none⟩ = some (.int .i64 ll) ∧ w'.cell? ⟨B3, j, none⟩ = some (.int .i64 (pb.getD j 0)) ∧ w'.frozen? ⟨G8, 0, none⟩ = false ∧ w'.frozen? ⟨G8, 1, none⟩ = false) := fun w' hb => ⟨(nw.below hb).cell 0 _ rfl, (nw.below hb).cell 1 _ rfl, ((kw.at 0 rfl).2.below hb).cell j _ (bkL_at (by have := OP.out.1; omega)), (nw.below hb).fz 0, (nw.below hb).fz 1⟩
              obtain ⟨c0, c1, c2, f0, f1⟩ := SC.out wr (Below.refl _ _)
              have FR : Below wr.heap.size wr wr := Below.refl _ _
              have NW2 : Hid (Blk G8 44 [.int .i64 hh, .int .i64 ll] wr) := nw
              have KW2 : Hid (Kept w [(B3, pb)] wr) := kw
              generalize whH hh (pb.getD j 0) = h2 at *
              generalize whL ll (pb.getD j 0) = l2 at *
              generalize pb.getD j 0 = x at *
              have j0 : (0 : Int) ≤ (j : Int) := by omega
              clear nw kw PL NO OS TR SM PO
              go_upto_region 18 with fail
              go_region_with (first | (go_at_call 18; refine (PX.out _).mono ?_; rintro e wa ⟨rfl, ba⟩; have FA : Below wr.heap.size wr wa := (by first | exact below_trans FR ba | exact below_trans (below_drewN FR 1) ba); obtain ⟨i0, i1, i2, i3, i4⟩ := SC.out _ FA))
              all_goals
                have q1 := ((NW2.out.below FA).set (i := 0) (.int .i64 h2)).set (i := 1) (.int .i64 l2)
                have gr := grownBy_trans (setCell_grown wa G8 0 (.int .i64 h2)) (setCell_grown (wa.setCell ⟨G8, 0, none⟩ (.int .i64 h2)) G8 1 (.int .i64 l2))
                have q2 := (KW2.out.call FA).grown gr (fun g' e => by cases e; exact ⟨by have := KW.out.2; omega, fun p hp => by simp at hp; subst hp; exact KW.out.2.1⟩)
                have Q1 : Hid (Blk G8 44 [.int .i64 h2, .int .i64 l2] _) := q1
                have Q2 : Hid (Kept w [(B3, pb)] _) := q2
                clear q1 q2 gr
                go_wp2_with fail
                go_roundw
                case rel => exact ⟨j + 1, h2, l2, by go_num, by omega, WN.out, Q1.out, Q2.out⟩
                case measure => simp [intOf]; omega
            · obtain rfl : j = 12 := by omega
              have WT : Hid (WhIs (total pb) 12 hh ll) := by have := WI.out; rwa [List.take_of_length_le (by have := OP.out.1; omega)] at this
              have KP : Hid (Kept w [(B3, pb)] wr) := kw
              have NW2 : Hid (Blk G8 44 [.int .i64 hh, .int .i64 ll] wr) := nw
              have TQ := TR.out pb
              have TQ2 : Hid (∀ w' : World, Calls Tryd.prog 17 #[.agg (bkL pb).toArray] w' fun e w2 => e = .returned (.tuple #[.int .i64 (if trOk pb then trD pb else 0), .int .i64 (if trOk pb then trD pb else 0), .bool (trOk pb)]) ∧ Below w'.heap.size w' w2) := fun w' => by
                have := TQ w' OP.out
                unfold trV at this
                rwa [← tr_even TP.out] at this
              clear nw kw NW KW PL TQ WI PO SM
              have TD0 : Hid (trOk pb = false → (if trOk pb then trD pb else 0) = 0) := fun h => by rw [h]; rfl
              have NO2 : Hid (∀ w' : World, Calls Tryd.prog 19 #[.agg #[.int .i64 hh, .int .i64 ll]] w' fun e w2 => e = .returned (.bool true) ∧ Below w'.heap.size w' w2) := fun w' => by
                have := NO.out _ _ _ _ w' WT.out (Nat.le_refl _)
                rwa [decide_eq_true TP.out] at this
              have OS2 : Hid (∀ w', Below w.heap.size w w' → Calls Tryd.prog 10 #[.agg (bkL pb).toArray] w' fun e w2 => e = .returned (.bool true) ∧ Below w'.heap.size w' w2) := fun w' hb => by
                have := OS.out pb w' OP.out hb
                rwa [SP.out] at this
              generalize (if trOk pb then trD pb else 0) = td at *
              generalize trOk pb = tk at *
              have etd : (td != td) = false := by simp
              clear NO OS TR hjl hj
              go_wp2_with (first
            | (refine step_get KP.out 0 rfl rfl _ rfl rfl ?_))
              refine (TQ2.out _).mono ?_
              rintro e w8 ⟨rfl, b8⟩
              have KP' : Kept w _ w8 := KP.out.call b8
              have n8 := NW2.out.below b8
              have c0 := n8.cell 0 _ rfl
              have c1 := n8.cell 1 _ rfl
              clear KP NW2 b8 n8
              have KP : Hid (Kept w [(B3, pb)] w8) := KP'
              clear KP'
              go_wp2_with fail
              refine (NO2.out _).mono ?_
              rintro e w9 ⟨rfl, b9⟩
              have KP' : Kept w _ w9 := KP.out.call b9
              clear KP b9 c0 c1
              have KP : Hid (Kept w [(B3, pb)] w9) := KP'
              clear KP'
              go_wp2_with (first
            | (refine step_getG KP.out 0 rfl rfl _ rfl rfl ?_))
              refine (OS2.out _ KP.out.bb).mono ?_
              rintro e w10 ⟨rfl, b10⟩
              have KP' : Kept w _ w10 := KP.out.call b10
              clear KP b10
              have KP : Hid (Kept w [(B3, pb)] w10) := KP'
              clear KP' NO2 OS2 TQ2
              cases tk
              · obtain rfl : td = 0 := TD0.out (by first | rfl | trivial)
                clear TD0
                go_wp2_with fail
                go_roundw
                case rel => exact ⟨(k' + 1) + 1, pb, by go_num, by omega, OP.out, TP.out, SP.out, KP.out⟩
                case measure => simp [intOf]; omega
              · clear TD0
                go_wp2_with fail
                go_roundw
                case rel => exact ⟨(k' + 1) + 1, pb, by go_num, by omega, OP.out, TP.out, SP.out, KP.out⟩
                case measure => simp [intOf]; omega
        · obtain rfl : pb = b := NP.out hE
          have neE : (E != 0) = true := bne_iff_ne.2 hE
          clear NP hE
          go_upto_region 13 with (first
          | (refine step_put KP.out pb OP.out.1 rfl _ _ rfl rfl rfl ?_; clear KP; intro w4 KP'; intro _; have KP : Hid (Kept _ _ _) := KP'; clear KP')
          | (refine step_getG KP.out 1 rfl rfl _ rfl rfl ?_)
          | (refine step_getG KP.out 0 rfl rfl _ rfl rfl ?_))
          refine (SM.out pb _ OP.out.1).mono ?_
          rintro e w5 ⟨rfl, bw5⟩
          have KP' : Kept _ _ w5 := KP.out.call bw5
          clear KP bw5
          have KP : Hid (Kept _ _ w5) := KP'
          clear KP'
          go_upto_region 13 with fail
          go_wp2_with (first
            | (refine step_get KP.out 0 rfl rfl _ rfl rfl ?_)
            | (refine step_over KP.out 1 rfl pb OP.out.1 rfl _ _ rfl rfl rfl ?_; clear KP; intro w6 KP'; have KP : Hid (Kept _ _ _) := KP'; clear KP'))
          have NW : Hid (Blk w6.heap.size 44 [.int .i64 0, .int .i64 0] (w6.alloc (.cells #[.int .i64 0, .int .i64 0] 44))) := Blk.new 44 [.int .i64 0, .int .i64 0] w6
          have KW : Hid (Kept w [(B3, pb)] (w6.alloc (.cells #[.int .i64 0, .int .i64 0] 44)) ∧ B3 < w6.heap.size ∧ w.heap.size ≤ w6.heap.size) := ⟨KP.out.alloc _, KP.out.lt (B3, pb) (by simp), KP.out.bb.size⟩
          obtain ⟨G8, HG8⟩ : ∃ G8, Hid (w6.heap.size = G8) := ⟨_, rfl⟩
          rw [HG8.out] at NW KW ⊢
          generalize w6.alloc (.cells #[.int .i64 0, .int .i64 0] 44) = w7 at *
          clear KP
          go_loopw [9] (fun vj wx => ∃ (j : Nat) (hh ll : Int), vj = .int .i64 (j : Int) ∧ j ≤ 12 ∧ Hid (WhIs (total (pb.take j)) j hh ll) ∧ Blk G8 44 [.int .i64 hh, .int .i64 ll] wx ∧ Kept w [(B3, pb)] wx) (fun vj _ => 12 - (intOf vj).toNat)
          case atStart => exact ⟨0, 0, 0, rfl, by omega, (show WhIs (total (pb.take 0)) 0 0 0 from wh_zero), NW.out, KW.out.1⟩
          case round =>
            obtain ⟨j, hh, ll, rfl, hj, WI, nw, kw⟩ := hrel
            by_cases hjl : (j : Int) < 12
            · have PX : Hid (∀ w' : World, Calls Tryd.prog 18 #[.agg #[.int .i64 hh, .int .i64 ll], .int .i64 (pb.getD j 0)] w' fun e w2 => e = .returned (.agg #[.int .i64 (whH hh (pb.getD j 0)), .int .i64 (whL ll (pb.getD j 0))]) ∧ Below w'.heap.size w' w2) := fun w' => PL.out _ _ _ _ _ w' WI.out hj (OP.out.2 j)
              have WN : Hid (WhIs (total (pb.take (j + 1))) (j + 1) (whH hh (pb.getD j 0)) (whL ll (pb.getD j 0))) := by
                have := wh_plus WI.out (OP.out.2 j)
                show WhIs _ _ _ _
                rw [total_take_succ pb j (by have := OP.out.1; omega)]; exact this
              have SC : Hid (∀ w', Below wr.heap.size wr w' → w'.cell? ⟨G8, 0, none⟩ = some (.int .i64 hh) ∧ w'.cell? ⟨G8, 1, none⟩ = some (.int .i64 ll) ∧ w'.cell? ⟨B3, j, none⟩ = some (.int .i64 (pb.getD j 0)) ∧ w'.frozen? ⟨G8, 0, none⟩ = false ∧ w'.frozen? ⟨G8, 1, none⟩ = false) := fun w' hb => ⟨(nw.below hb).cell 0 _ rfl, (nw.below hb).cell 1 _ rfl, ((kw.at 0 rfl).2.below hb).cell j _ (bkL_at (by have := OP.out.1; omega)), (nw.below hb).fz 0, (nw.below hb).fz 1⟩
              obtain ⟨c0, c1, c2, f0, f1⟩ := SC.out wr (Below.refl _ _)
              have FR : Below wr.heap.size wr wr := Below.refl _ _
              have NW2 : Hid (Blk G8 44 [.int .i64 hh, .int .i64 ll] wr) := nw
              have KW2 : Hid (Kept w [(B3, pb)] wr) := kw
              generalize whH hh (pb.getD j 0) = h2 at *
              generalize whL ll (pb.getD j 0) = l2 at *
              generalize pb.getD j 0 = x at *
              have j0 : (0 : Int) ≤ (j : Int) := by omega
              clear nw kw PL NO OS TR SM PO
              go_upto_region 18 with fail
              go_region_with (first | (go_at_call 18; refine (PX.out _).mono ?_; rintro e wa ⟨rfl, ba⟩; have FA : Below wr.heap.size wr wa := (by first | exact below_trans FR ba | exact below_trans (below_drewN FR 1) ba); obtain ⟨i0, i1, i2, i3, i4⟩ := SC.out _ FA))
              all_goals
                have q1 := ((NW2.out.below FA).set (i := 0) (.int .i64 h2)).set (i := 1) (.int .i64 l2)
                have gr := grownBy_trans (setCell_grown wa G8 0 (.int .i64 h2)) (setCell_grown (wa.setCell ⟨G8, 0, none⟩ (.int .i64 h2)) G8 1 (.int .i64 l2))
                have q2 := (KW2.out.call FA).grown gr (fun g' e => by cases e; exact ⟨by have := KW.out.2; omega, fun p hp => by simp at hp; subst hp; exact KW.out.2.1⟩)
                have Q1 : Hid (Blk G8 44 [.int .i64 h2, .int .i64 l2] _) := q1
                have Q2 : Hid (Kept w [(B3, pb)] _) := q2
                clear q1 q2 gr
                go_wp2_with fail
                go_roundw
                case rel => exact ⟨j + 1, h2, l2, by go_num, by omega, WN.out, Q1.out, Q2.out⟩
                case measure => simp [intOf]; omega
            · obtain rfl : j = 12 := by omega
              have WT : Hid (WhIs (total pb) 12 hh ll) := by have := WI.out; rwa [List.take_of_length_le (by have := OP.out.1; omega)] at this
              have KP : Hid (Kept w [(B3, pb)] wr) := kw
              have NW2 : Hid (Blk G8 44 [.int .i64 hh, .int .i64 ll] wr) := nw
              have TQ := TR.out pb
              have TQ2 : Hid (∀ w' : World, Calls Tryd.prog 17 #[.agg (bkL pb).toArray] w' fun e w2 => e = .returned (.tuple #[.int .i64 (if trOk pb then trD pb else 0), .int .i64 (if trOk pb then trD pb else 0), .bool (trOk pb)]) ∧ Below w'.heap.size w' w2) := fun w' => by
                have := TQ w' OP.out
                unfold trV at this
                rwa [← tr_even TP.out] at this
              clear nw kw NW KW PL TQ WI PO SM
              have TD0 : Hid (trOk pb = false → (if trOk pb then trD pb else 0) = 0) := fun h => by rw [h]; rfl
              have NO2 : Hid (∀ w' : World, Calls Tryd.prog 19 #[.agg #[.int .i64 hh, .int .i64 ll]] w' fun e w2 => e = .returned (.bool true) ∧ Below w'.heap.size w' w2) := fun w' => by
                have := NO.out _ _ _ _ w' WT.out (Nat.le_refl _)
                rwa [decide_eq_true TP.out] at this
              have OS2 : Hid (∀ w', Below w.heap.size w w' → Calls Tryd.prog 10 #[.agg (bkL pb).toArray] w' fun e w2 => e = .returned (.bool true) ∧ Below w'.heap.size w' w2) := fun w' hb => by
                have := OS.out pb w' OP.out hb
                rwa [SP.out] at this
              generalize (if trOk pb then trD pb else 0) = td at *
              generalize trOk pb = tk at *
              have etd : (td != td) = false := by simp
              clear NO OS TR hjl hj
              go_wp2_with (first
            | (refine step_get KP.out 0 rfl rfl _ rfl rfl ?_))
              refine (TQ2.out _).mono ?_
              rintro e w8 ⟨rfl, b8⟩
              have KP' : Kept w _ w8 := KP.out.call b8
              have n8 := NW2.out.below b8
              have c0 := n8.cell 0 _ rfl
              have c1 := n8.cell 1 _ rfl
              clear KP NW2 b8 n8
              have KP : Hid (Kept w [(B3, pb)] w8) := KP'
              clear KP'
              go_wp2_with fail
              refine (NO2.out _).mono ?_
              rintro e w9 ⟨rfl, b9⟩
              have KP' : Kept w _ w9 := KP.out.call b9
              clear KP b9 c0 c1
              have KP : Hid (Kept w [(B3, pb)] w9) := KP'
              clear KP'
              go_wp2_with (first
            | (refine step_getG KP.out 0 rfl rfl _ rfl rfl ?_))
              refine (OS2.out _ KP.out.bb).mono ?_
              rintro e w10 ⟨rfl, b10⟩
              have KP' : Kept w _ w10 := KP.out.call b10
              clear KP b10
              have KP : Hid (Kept w [(B3, pb)] w10) := KP'
              clear KP' NO2 OS2 TQ2
              cases tk
              · obtain rfl : td = 0 := TD0.out (by first | rfl | trivial)
                clear TD0
                go_wp2_with fail
                go_roundw
                case rel => exact ⟨(k' + 1) + 1, pb, by go_num, by omega, OP.out, TP.out, SP.out, KP.out⟩
                case measure => simp [intOf]; omega
              · clear TD0
                go_wp2_with fail
                go_roundw
                case rel => exact ⟨(k' + 1) + 1, pb, by go_num, by omega, OP.out, TP.out, SP.out, KP.out⟩
                case measure => simp [intOf]; omega
      · have hq : ((k : Int) % 3 == 2) = false := beq_eq_false_iff_ne.2 hq3
        have RE : Hid (RdE wr (.slice xa (ess.getD k []).length xc) (ess.getD k [])) := rx
        have OKE : Hid (∀ e ∈ ess.getD k [], EntOk e) := MX.1
        have LE : Hid ((ess.getD k []).length ≤ 1048576) := MX.2
        generalize ess.getD k [] = es at *
        clear rx MX hq3 hk2 CE ME
        go_wp2_with (first
          | (refine step_get KP.out 0 rfl rfl _ rfl rfl ?_))
        refine (PO.out b es _ _ OB.out KP.out.bb RE.out OKE.out LE.out).mono ?_
        rintro e w3 ⟨rfl, b3⟩
        have KP' : Kept w _ w3 := KP.out.call b3
        clear KP b3 RE OKE LE RV
        have KP : Hid (Kept w [(B3, b)] w3) := KP'
        clear KP'
        have OP : Hid (BkOk (postB b es)) := postB_ok OB.out
        have TP : Hid (total (postB b es) = 0) := (total_post OB.out.1).trans TB.out
        have SP : Hid (sidesB (postB b es) = true) := sides_post SB.out
        have NP : Hid (postE b es ≠ 0 → postB b es = b) := postB_no
        generalize postB b es = pb at *
        generalize postE b es = E at *
        by_cases hE : E = 0
        · subst hE
          clear NP
          go_upto_region 13 with (first
          | (refine step_put KP.out pb OP.out.1 rfl _ _ rfl rfl rfl ?_; clear KP; intro w4 KP'; intro _; have KP : Hid (Kept _ _ _) := KP'; clear KP'))
          go_wp2_with (first
            | (refine step_get KP.out 0 rfl rfl _ rfl rfl ?_)
            | (refine step_over KP.out 1 rfl pb OP.out.1 rfl _ _ rfl rfl rfl ?_; clear KP; intro w6 KP'; have KP : Hid (Kept _ _ _) := KP'; clear KP'))
          have NW : Hid (Blk w6.heap.size 44 [.int .i64 0, .int .i64 0] (w6.alloc (.cells #[.int .i64 0, .int .i64 0] 44))) := Blk.new 44 [.int .i64 0, .int .i64 0] w6
          have KW : Hid (Kept w [(B3, pb)] (w6.alloc (.cells #[.int .i64 0, .int .i64 0] 44)) ∧ B3 < w6.heap.size ∧ w.heap.size ≤ w6.heap.size) := ⟨KP.out.alloc _, KP.out.lt (B3, pb) (by simp), KP.out.bb.size⟩
          obtain ⟨G8, HG8⟩ : ∃ G8, Hid (w6.heap.size = G8) := ⟨_, rfl⟩
          rw [HG8.out] at NW KW ⊢
          generalize w6.alloc (.cells #[.int .i64 0, .int .i64 0] 44) = w7 at *
          clear KP
          go_loopw [9] (fun vj wx => ∃ (j : Nat) (hh ll : Int), vj = .int .i64 (j : Int) ∧ j ≤ 12 ∧ Hid (WhIs (total (pb.take j)) j hh ll) ∧ Blk G8 44 [.int .i64 hh, .int .i64 ll] wx ∧ Kept w [(B3, pb)] wx) (fun vj _ => 12 - (intOf vj).toNat)
          case atStart => exact ⟨0, 0, 0, rfl, by omega, (show WhIs (total (pb.take 0)) 0 0 0 from wh_zero), NW.out, KW.out.1⟩
          case round =>
            obtain ⟨j, hh, ll, rfl, hj, WI, nw, kw⟩ := hrel
            by_cases hjl : (j : Int) < 12
            · have PX : Hid (∀ w' : World, Calls Tryd.prog 18 #[.agg #[.int .i64 hh, .int .i64 ll], .int .i64 (pb.getD j 0)] w' fun e w2 => e = .returned (.agg #[.int .i64 (whH hh (pb.getD j 0)), .int .i64 (whL ll (pb.getD j 0))]) ∧ Below w'.heap.size w' w2) := fun w' => PL.out _ _ _ _ _ w' WI.out hj (OP.out.2 j)
              have WN : Hid (WhIs (total (pb.take (j + 1))) (j + 1) (whH hh (pb.getD j 0)) (whL ll (pb.getD j 0))) := by
                have := wh_plus WI.out (OP.out.2 j)
                show WhIs _ _ _ _
                rw [total_take_succ pb j (by have := OP.out.1; omega)]; exact this
              have SC : Hid (∀ w', Below wr.heap.size wr w' → w'.cell? ⟨G8, 0, none⟩ = some (.int .i64 hh) ∧ w'.cell? ⟨G8, 1, none⟩ = some (.int .i64 ll) ∧ w'.cell? ⟨B3, j, none⟩ = some (.int .i64 (pb.getD j 0)) ∧ w'.frozen? ⟨G8, 0, none⟩ = false ∧ w'.frozen? ⟨G8, 1, none⟩ = false) := fun w' hb => ⟨(nw.below hb).cell 0 _ rfl, (nw.below hb).cell 1 _ rfl, ((kw.at 0 rfl).2.below hb).cell j _ (bkL_at (by have := OP.out.1; omega)), (nw.below hb).fz 0, (nw.below hb).fz 1⟩
              obtain ⟨c0, c1, c2, f0, f1⟩ := SC.out wr (Below.refl _ _)
              have FR : Below wr.heap.size wr wr := Below.refl _ _
              have NW2 : Hid (Blk G8 44 [.int .i64 hh, .int .i64 ll] wr) := nw
              have KW2 : Hid (Kept w [(B3, pb)] wr) := kw
              generalize whH hh (pb.getD j 0) = h2 at *
              generalize whL ll (pb.getD j 0) = l2 at *
              generalize pb.getD j 0 = x at *
              have j0 : (0 : Int) ≤ (j : Int) := by omega
              clear nw kw PL NO OS TR SM PO
              go_upto_region 18 with fail
              go_region_with (first | (go_at_call 18; refine (PX.out _).mono ?_; rintro e wa ⟨rfl, ba⟩; have FA : Below wr.heap.size wr wa := (by first | exact below_trans FR ba | exact below_trans (below_drewN FR 1) ba); obtain ⟨i0, i1, i2, i3, i4⟩ := SC.out _ FA))
              all_goals
                have q1 := ((NW2.out.below FA).set (i := 0) (.int .i64 h2)).set (i := 1) (.int .i64 l2)
                have gr := grownBy_trans (setCell_grown wa G8 0 (.int .i64 h2)) (setCell_grown (wa.setCell ⟨G8, 0, none⟩ (.int .i64 h2)) G8 1 (.int .i64 l2))
                have q2 := (KW2.out.call FA).grown gr (fun g' e => by cases e; exact ⟨by have := KW.out.2; omega, fun p hp => by simp at hp; subst hp; exact KW.out.2.1⟩)
                have Q1 : Hid (Blk G8 44 [.int .i64 h2, .int .i64 l2] _) := q1
                have Q2 : Hid (Kept w [(B3, pb)] _) := q2
                clear q1 q2 gr
                go_wp2_with fail
                go_roundw
                case rel => exact ⟨j + 1, h2, l2, by go_num, by omega, WN.out, Q1.out, Q2.out⟩
                case measure => simp [intOf]; omega
            · obtain rfl : j = 12 := by omega
              have WT : Hid (WhIs (total pb) 12 hh ll) := by have := WI.out; rwa [List.take_of_length_le (by have := OP.out.1; omega)] at this
              have KP : Hid (Kept w [(B3, pb)] wr) := kw
              have NW2 : Hid (Blk G8 44 [.int .i64 hh, .int .i64 ll] wr) := nw
              have TQ := TR.out pb
              have TQ2 : Hid (∀ w' : World, Calls Tryd.prog 17 #[.agg (bkL pb).toArray] w' fun e w2 => e = .returned (.tuple #[.int .i64 (if trOk pb then trD pb else 0), .int .i64 (if trOk pb then trD pb else 0), .bool (trOk pb)]) ∧ Below w'.heap.size w' w2) := fun w' => by
                have := TQ w' OP.out
                unfold trV at this
                rwa [← tr_even TP.out] at this
              clear nw kw NW KW PL TQ WI PO SM
              have TD0 : Hid (trOk pb = false → (if trOk pb then trD pb else 0) = 0) := fun h => by rw [h]; rfl
              have NO2 : Hid (∀ w' : World, Calls Tryd.prog 19 #[.agg #[.int .i64 hh, .int .i64 ll]] w' fun e w2 => e = .returned (.bool true) ∧ Below w'.heap.size w' w2) := fun w' => by
                have := NO.out _ _ _ _ w' WT.out (Nat.le_refl _)
                rwa [decide_eq_true TP.out] at this
              have OS2 : Hid (∀ w', Below w.heap.size w w' → Calls Tryd.prog 10 #[.agg (bkL pb).toArray] w' fun e w2 => e = .returned (.bool true) ∧ Below w'.heap.size w' w2) := fun w' hb => by
                have := OS.out pb w' OP.out hb
                rwa [SP.out] at this
              generalize (if trOk pb then trD pb else 0) = td at *
              generalize trOk pb = tk at *
              have etd : (td != td) = false := by simp
              clear NO OS TR hjl hj
              go_wp2_with (first
            | (refine step_get KP.out 0 rfl rfl _ rfl rfl ?_))
              refine (TQ2.out _).mono ?_
              rintro e w8 ⟨rfl, b8⟩
              have KP' : Kept w _ w8 := KP.out.call b8
              have n8 := NW2.out.below b8
              have c0 := n8.cell 0 _ rfl
              have c1 := n8.cell 1 _ rfl
              clear KP NW2 b8 n8
              have KP : Hid (Kept w [(B3, pb)] w8) := KP'
              clear KP'
              go_wp2_with fail
              refine (NO2.out _).mono ?_
              rintro e w9 ⟨rfl, b9⟩
              have KP' : Kept w _ w9 := KP.out.call b9
              clear KP b9 c0 c1
              have KP : Hid (Kept w [(B3, pb)] w9) := KP'
              clear KP'
              go_wp2_with (first
            | (refine step_getG KP.out 0 rfl rfl _ rfl rfl ?_))
              refine (OS2.out _ KP.out.bb).mono ?_
              rintro e w10 ⟨rfl, b10⟩
              have KP' : Kept w _ w10 := KP.out.call b10
              clear KP b10
              have KP : Hid (Kept w [(B3, pb)] w10) := KP'
              clear KP' NO2 OS2 TQ2
              cases tk
              · obtain rfl : td = 0 := TD0.out (by first | rfl | trivial)
                clear TD0
                go_wp2_with fail
                go_roundw
                case rel => exact ⟨k + 1, pb, by go_num, by omega, OP.out, TP.out, SP.out, KP.out⟩
                case measure => simp [intOf]; omega
              · clear TD0
                go_wp2_with fail
                go_roundw
                case rel => exact ⟨k + 1, pb, by go_num, by omega, OP.out, TP.out, SP.out, KP.out⟩
                case measure => simp [intOf]; omega
        · obtain rfl : pb = b := NP.out hE
          have neE : (E != 0) = true := bne_iff_ne.2 hE
          clear NP hE
          go_upto_region 13 with (first
          | (refine step_put KP.out pb OP.out.1 rfl _ _ rfl rfl rfl ?_; clear KP; intro w4 KP'; intro _; have KP : Hid (Kept _ _ _) := KP'; clear KP')
          | (refine step_getG KP.out 1 rfl rfl _ rfl rfl ?_)
          | (refine step_getG KP.out 0 rfl rfl _ rfl rfl ?_))
          refine (SM.out pb _ OP.out.1).mono ?_
          rintro e w5 ⟨rfl, bw5⟩
          have KP' : Kept _ _ w5 := KP.out.call bw5
          clear KP bw5
          have KP : Hid (Kept _ _ w5) := KP'
          clear KP'
          go_upto_region 13 with fail
          go_wp2_with (first
            | (refine step_get KP.out 0 rfl rfl _ rfl rfl ?_)
            | (refine step_over KP.out 1 rfl pb OP.out.1 rfl _ _ rfl rfl rfl ?_; clear KP; intro w6 KP'; have KP : Hid (Kept _ _ _) := KP'; clear KP'))
          have NW : Hid (Blk w6.heap.size 44 [.int .i64 0, .int .i64 0] (w6.alloc (.cells #[.int .i64 0, .int .i64 0] 44))) := Blk.new 44 [.int .i64 0, .int .i64 0] w6
          have KW : Hid (Kept w [(B3, pb)] (w6.alloc (.cells #[.int .i64 0, .int .i64 0] 44)) ∧ B3 < w6.heap.size ∧ w.heap.size ≤ w6.heap.size) := ⟨KP.out.alloc _, KP.out.lt (B3, pb) (by simp), KP.out.bb.size⟩
          obtain ⟨G8, HG8⟩ : ∃ G8, Hid (w6.heap.size = G8) := ⟨_, rfl⟩
          rw [HG8.out] at NW KW ⊢
          generalize w6.alloc (.cells #[.int .i64 0, .int .i64 0] 44) = w7 at *
          clear KP
          go_loopw [9] (fun vj wx => ∃ (j : Nat) (hh ll : Int), vj = .int .i64 (j : Int) ∧ j ≤ 12 ∧ Hid (WhIs (total (pb.take j)) j hh ll) ∧ Blk G8 44 [.int .i64 hh, .int .i64 ll] wx ∧ Kept w [(B3, pb)] wx) (fun vj _ => 12 - (intOf vj).toNat)
          case atStart => exact ⟨0, 0, 0, rfl, by omega, (show WhIs (total (pb.take 0)) 0 0 0 from wh_zero), NW.out, KW.out.1⟩
          case round =>
            obtain ⟨j, hh, ll, rfl, hj, WI, nw, kw⟩ := hrel
            by_cases hjl : (j : Int) < 12
            · have PX : Hid (∀ w' : World, Calls Tryd.prog 18 #[.agg #[.int .i64 hh, .int .i64 ll], .int .i64 (pb.getD j 0)] w' fun e w2 => e = .returned (.agg #[.int .i64 (whH hh (pb.getD j 0)), .int .i64 (whL ll (pb.getD j 0))]) ∧ Below w'.heap.size w' w2) := fun w' => PL.out _ _ _ _ _ w' WI.out hj (OP.out.2 j)
              have WN : Hid (WhIs (total (pb.take (j + 1))) (j + 1) (whH hh (pb.getD j 0)) (whL ll (pb.getD j 0))) := by
                have := wh_plus WI.out (OP.out.2 j)
                show WhIs _ _ _ _
                rw [total_take_succ pb j (by have := OP.out.1; omega)]; exact this
              have SC : Hid (∀ w', Below wr.heap.size wr w' → w'.cell? ⟨G8, 0, none⟩ = some (.int .i64 hh) ∧ w'.cell? ⟨G8, 1, none⟩ = some (.int .i64 ll) ∧ w'.cell? ⟨B3, j, none⟩ = some (.int .i64 (pb.getD j 0)) ∧ w'.frozen? ⟨G8, 0, none⟩ = false ∧ w'.frozen? ⟨G8, 1, none⟩ = false) := fun w' hb => ⟨(nw.below hb).cell 0 _ rfl, (nw.below hb).cell 1 _ rfl, ((kw.at 0 rfl).2.below hb).cell j _ (bkL_at (by have := OP.out.1; omega)), (nw.below hb).fz 0, (nw.below hb).fz 1⟩
              obtain ⟨c0, c1, c2, f0, f1⟩ := SC.out wr (Below.refl _ _)
              have FR : Below wr.heap.size wr wr := Below.refl _ _
              have NW2 : Hid (Blk G8 44 [.int .i64 hh, .int .i64 ll] wr) := nw
              have KW2 : Hid (Kept w [(B3, pb)] wr) := kw
              generalize whH hh (pb.getD j 0) = h2 at *
              generalize whL ll (pb.getD j 0) = l2 at *
              generalize pb.getD j 0 = x at *
              have j0 : (0 : Int) ≤ (j : Int) := by omega
              clear nw kw PL NO OS TR SM PO
              go_upto_region 18 with fail
              go_region_with (first | (go_at_call 18; refine (PX.out _).mono ?_; rintro e wa ⟨rfl, ba⟩; have FA : Below wr.heap.size wr wa := (by first | exact below_trans FR ba | exact below_trans (below_drewN FR 1) ba); obtain ⟨i0, i1, i2, i3, i4⟩ := SC.out _ FA))
              all_goals
                have q1 := ((NW2.out.below FA).set (i := 0) (.int .i64 h2)).set (i := 1) (.int .i64 l2)
                have gr := grownBy_trans (setCell_grown wa G8 0 (.int .i64 h2)) (setCell_grown (wa.setCell ⟨G8, 0, none⟩ (.int .i64 h2)) G8 1 (.int .i64 l2))
                have q2 := (KW2.out.call FA).grown gr (fun g' e => by cases e; exact ⟨by have := KW.out.2; omega, fun p hp => by simp at hp; subst hp; exact KW.out.2.1⟩)
                have Q1 : Hid (Blk G8 44 [.int .i64 h2, .int .i64 l2] _) := q1
                have Q2 : Hid (Kept w [(B3, pb)] _) := q2
                clear q1 q2 gr
                go_wp2_with fail
                go_roundw
                case rel => exact ⟨j + 1, h2, l2, by go_num, by omega, WN.out, Q1.out, Q2.out⟩
                case measure => simp [intOf]; omega
            · obtain rfl : j = 12 := by omega
              have WT : Hid (WhIs (total pb) 12 hh ll) := by have := WI.out; rwa [List.take_of_length_le (by have := OP.out.1; omega)] at this
              have KP : Hid (Kept w [(B3, pb)] wr) := kw
              have NW2 : Hid (Blk G8 44 [.int .i64 hh, .int .i64 ll] wr) := nw
              have TQ := TR.out pb
              have TQ2 : Hid (∀ w' : World, Calls Tryd.prog 17 #[.agg (bkL pb).toArray] w' fun e w2 => e = .returned (.tuple #[.int .i64 (if trOk pb then trD pb else 0), .int .i64 (if trOk pb then trD pb else 0), .bool (trOk pb)]) ∧ Below w'.heap.size w' w2) := fun w' => by
                have := TQ w' OP.out
                unfold trV at this
                rwa [← tr_even TP.out] at this
              clear nw kw NW KW PL TQ WI PO SM
              have TD0 : Hid (trOk pb = false → (if trOk pb then trD pb else 0) = 0) := fun h => by rw [h]; rfl
              have NO2 : Hid (∀ w' : World, Calls Tryd.prog 19 #[.agg #[.int .i64 hh, .int .i64 ll]] w' fun e w2 => e = .returned (.bool true) ∧ Below w'.heap.size w' w2) := fun w' => by
                have := NO.out _ _ _ _ w' WT.out (Nat.le_refl _)
                rwa [decide_eq_true TP.out] at this
              have OS2 : Hid (∀ w', Below w.heap.size w w' → Calls Tryd.prog 10 #[.agg (bkL pb).toArray] w' fun e w2 => e = .returned (.bool true) ∧ Below w'.heap.size w' w2) := fun w' hb => by
                have := OS.out pb w' OP.out hb
                rwa [SP.out] at this
              generalize (if trOk pb then trD pb else 0) = td at *
              generalize trOk pb = tk at *
              have etd : (td != td) = false := by simp
              clear NO OS TR hjl hj
              go_wp2_with (first
            | (refine step_get KP.out 0 rfl rfl _ rfl rfl ?_))
              refine (TQ2.out _).mono ?_
              rintro e w8 ⟨rfl, b8⟩
              have KP' : Kept w _ w8 := KP.out.call b8
              have n8 := NW2.out.below b8
              have c0 := n8.cell 0 _ rfl
              have c1 := n8.cell 1 _ rfl
              clear KP NW2 b8 n8
              have KP : Hid (Kept w [(B3, pb)] w8) := KP'
              clear KP'
              go_wp2_with fail
              refine (NO2.out _).mono ?_
              rintro e w9 ⟨rfl, b9⟩
              have KP' : Kept w _ w9 := KP.out.call b9
              clear KP b9 c0 c1
              have KP : Hid (Kept w [(B3, pb)] w9) := KP'
              clear KP'
              go_wp2_with (first
            | (refine step_getG KP.out 0 rfl rfl _ rfl rfl ?_))
              refine (OS2.out _ KP.out.bb).mono ?_
              rintro e w10 ⟨rfl, b10⟩
              have KP' : Kept w _ w10 := KP.out.call b10
              clear KP b10
              have KP : Hid (Kept w [(B3, pb)] w10) := KP'
              clear KP' NO2 OS2 TQ2
              cases tk
              · obtain rfl : td = 0 := TD0.out (by first | rfl | trivial)
                clear TD0
                go_wp2_with fail
                go_roundw
                case rel => exact ⟨k + 1, pb, by go_num, by omega, OP.out, TP.out, SP.out, KP.out⟩
                case measure => simp [intOf]; omega
              · clear TD0
                go_wp2_with fail
                go_roundw
                case rel => exact ⟨k + 1, pb, by go_num, by omega, OP.out, TP.out, SP.out, KP.out⟩
                case measure => simp [intOf]; omega
    · obtain rfl : k = L := by omega
      go_wp2_with fail
      go_ret
      exact ⟨rfl, KP.out.bb⟩
end Go.Proofs.YtkmmpffkmoaceabDoor
