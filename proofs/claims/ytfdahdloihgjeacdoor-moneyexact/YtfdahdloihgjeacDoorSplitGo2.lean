/-
  Ours: the contract of money.Split.
-/
import Derived.Test.YtfdahdloihgjeacDoorSplitGo
namespace Go.Proofs.YtfdahdloihgjeacDoor
open Go.RowKit Stable Spl

theorem addW_empty (a : Option Addr) (cap : Nat) (w : World) :
    Calls Tryd.prog 43 #[.slice a 0 cap] w fun e w' => e = .returned (.tuple #[.int .i64 0, .bool false]) ∧ w' = w := by
  have SE : Hid (∀ w, Calls Tryd.prog 31 #[.slice a 0 cap] w fun e w' => e = .returned (.tuple #[.int .i64 0, .bool true]) ∧ w' = w) := fun w => (sum_empty a cap w).mono fun e w' ⟨he, hw⟩ => ⟨by rw [he]; exact ret_vk (by decide) (by decide), hw⟩
  go_enter Tryd.func43, Tryd.ntmps43
  go_wp2
  go_loop [5, 13] (fun _ ii => ii = .int .i64 0) (fun _ _ => 0)
  case atStart => rfl
  case round =>
    subst hrel
    go_wp2_with fail
    refine (SE.out _).mono ?_
    rintro e w1 ⟨rfl, hw⟩; rw [hw]; clear hw w1
    go_wp2_with fail
    go_ret2
    exact ⟨rfl, rfl⟩

/-- The floors and the rests of a split. -/
def quoF (T W : Int) (ws : List Int) : Nat → Int := fun i => T * ws.getD i 0 / W
def rstF (T W : Int) (ws : List Int) : Nat → Int := fun i => T * ws.getD i 0 % W

theorem sumTo_total (ws : List Int) : ∀ k, k ≤ ws.length → sumTo (fun i => ws.getD i 0) k = total (ws.take k)
  | 0, _ => by simp [sumTo, total]
  | k + 1, h => by rw [sumTo, sumTo_total ws k (by omega), total_take_succ ws k (by omega)]

/-- Refused: nothing is made. -/
theorem split_no {w : World} {v : Value} (T V : Int) (K : Bool) (hb : T < 0 ∨ K = false)
    (hA : Calls Tryd.prog 43 #[v] w fun e w' => e = .returned (.tuple #[.int .i64 V, .bool K]) ∧ w' = w) :
    Calls Tryd.prog 15 #[.int .i64 T, v] w fun e w' => e = .returned (.tuple #[.slice none 0 0, .bool false]) ∧ w' = w := by
  have HA : Hid (Calls Tryd.prog 43 #[v] w fun e w' => e = .returned (.tuple #[.int .i64 V, .bool K]) ∧ w' = w) := hA
  clear hA
  by_cases h : T < 0
  · clear hb
    go_enter Tryd.func15, Tryd.ntmps15
    go_wp2_with fail
    refine HA.out.mono ?_
    rintro e w1 ⟨rfl, hw⟩; rw [hw]; clear hw w1
    go_wp2_with fail
    go_ret2
    exact ⟨rfl, rfl⟩
  · obtain rfl : K = false := hb.resolve_left h
    have d : decide (T < 0) = false := decide_eq_false h
    clear hb
    go_enter Tryd.func15, Tryd.ntmps15
    go_wp2_with fail
    refine HA.out.mono ?_
    rintro e w1 ⟨rfl, hw⟩; rw [hw]; clear hw w1
    go_wp2_with fail
    go_ret2
    exact ⟨rfl, rfl⟩

/-- What the first k rounds of the first loop have laid. -/
def laid (q : Nat → Int) (k : Nat) : Nat → Int := fun i => if i < k then q i else 0
theorem laid_zero (q : Nat → Int) : ∀ i, laid q 0 i = 0 := fun i => by simp [laid]
theorem laid_step (q : Nat → Int) (k i : Nat) : (if i = k then q k else laid q k i) = laid q (k + 1) i := by
  unfold laid
  by_cases e : i = k
  · subst e; simp
  · by_cases c : i < k
    · rw [if_neg e, if_pos c, if_pos (by omega)]
    · rw [if_neg e, if_neg c, if_neg (by omega)]

set_option maxRecDepth 100000 in
set_option maxHeartbeats 4000000 in
theorem split_yes (T W : Int) (ws : List Int) (g o cap : Nat) (w : World) (hx : I64 ws) (h0 : 0 < ws.length) (hl : ws.length ≤ 1000) (hg : g < w.heap.size) (T0 : 0 ≤ T) (T1 : T ≤ 9223372036854775807)
    (hc : ∀ i, i < ws.length → w.cell? ⟨g, o + i, none⟩ = some (.int .i64 (ws.getD i 0))) (hw : ∀ i, i < ws.length → 0 ≤ ws.getD i 0) (hW : total ws = W) (W0 : 0 < W) (W1 : W ≤ 9223372036854775807)
    (hA : ∀ w', w' = w → Calls Tryd.prog 43 #[.slice (some ⟨g, o, none⟩) ws.length cap] w' fun e w'' => e = .returned (.tuple #[.int .i64 W, .bool true]) ∧ w'' = w') :
    Calls Tryd.prog 15 #[.int .i64 T, .slice (some ⟨g, o, none⟩) ws.length cap] w fun e w' =>
      ∃ gp, e = .returned (.tuple #[.slice (some ⟨gp, 0, none⟩) ws.length ws.length, .bool true]) ∧ w.heap.size ≤ gp ∧ Below w.heap.size w w' ∧
        ∃ f, Shuf 0 ws.length idf f ∧ Sorted (rstF T W ws) 0 ws.length f ∧ IC gp ws.length w' (parts (quoF T W ws) f (T - sumTo (quoF T W ws) ws.length).toNat) := by
  obtain ⟨i0, hi, hz0, hz1, hz2⟩ := info_parts Tryd.info2
  have HA : Hid (∀ w', w' = w → Calls Tryd.prog 43 #[.slice (some ⟨g, o, none⟩) ws.length cap] w' fun e w'' => e = .returned (.tuple #[.int .i64 W, .bool true]) ∧ w'' = w') := hA
  clear hA
  have hs : sumTo (fun i => ws.getD i 0) ws.length = W := by rw [sumTo_total ws _ (Nat.le_refl _), List.take_of_length_le (Nat.le_refl _)]; exact hW
  obtain ⟨ms0, ms1, msk⟩ := missing T W (fun i => ws.getD i 0) ws.length T0 W0 hw hs
  have pl : ∀ i, i < ws.length → 0 ≤ quoF T W ws i ∧ quoF T W ws i ≤ T := fun i hi => part_le T W _ T0 W0 (hw i hi) (by rw [← hs]; exact one_le (w := fun i => ws.getD i 0) hw hi)
  have q0 : ∀ i, i < ws.length → quoF T W ws i ≤ sumTo (quoF T W ws) ws.length := fun i hi => one_le (fun j hj => (pl j hj).1) hi
  have FL : Hid (∀ i, i < ws.length → ∀ w, Calls Tryd.prog 28 #[.int .i64 T, .int .i64 (ws.getD i 0), .int .i64 W] w fun e w' => e = .returned (.tuple #[.int .i64 (quoF T W ws i), .int .i64 (rstF T W ws i), .bool true]) ∧ ∃ n, w' = w.drewN n) := fun i hi w => by
    have := floor_any T (ws.getD i 0) W (by omega) T1 (hx i).1 (hx i).2 (by omega) W1 w
    have p := pl i hi
    have ok : flOk T (ws.getD i 0) W = true := decide_eq_true ⟨W0, by unfold quoF at p; omega, by unfold quoF at p; omega⟩
    have e1 : flQ T (ws.getD i 0) W = quoF T W ws i := by unfold flQ quoF; rw [ok, if_pos rfl]
    have e2 : flR T (ws.getD i 0) W = rstF T W ws i := by unfold flR rstF; rw [ok, if_pos rfl]
    rw [ok, e1, e2] at this; exact this
  have MS : Hid (0 ≤ T - sumTo (quoF T W ws) ws.length ∧ T - sumTo (quoF T W ws) ws.length ≤ ws.length ∧ ∀ k, k ≤ ws.length → 0 ≤ sumTo (quoF T W ws) k ∧ sumTo (quoF T W ws) k ≤ T) := ⟨ms0, ms1, msk⟩
  have PL : Hid (∀ i, i < ws.length → 0 ≤ quoF T W ws i ∧ quoF T W ws i ≤ T) := pl
  have Q0 : Hid (∀ i, i < ws.length → quoF T W ws i ≤ sumTo (quoF T W ws) ws.length) := q0
  have HC : Hid (∀ i, i < ws.length → w.cell? ⟨g, o + i, none⟩ = some (.int .i64 (ws.getD i 0))) := hc
  clear ms0 ms1 msk pl q0 hc hs hw hx hW
  generalize quoF T W ws = q at *
  generalize rstF T W ws = r at *
  obtain ⟨n, hn⟩ : ∃ n, ws.length = n := ⟨_, rfl⟩
  rw [hn] at h0 hl HA FL MS PL Q0 HC ⊢
  clear hn
  have dT : decide (T < 0) = false := decide_eq_false (by omega)
  go_enter Tryd.func15, Tryd.ntmps15
  go_wp2_with fail
  refine (HA.out _ rfl).mono ?_
  rintro e w1 ⟨rfl, hw1⟩; rw [hw1]; clear hw1 w1 HA
  go_wp2_with (first | (at_make; refine wpList_make_full _ rfl (.tmp 27) (.tmp 27) 25 rfl w.heap.size 2 i0 (.int .i64 0) 1 Tryd.underlying25 hi hz0 hz1 .i64 .i64 _ _ n rfl rfl rfl rfl (by rw [hz2]; omega) (by unfold maxLen; omega) (Nat.le_refl _) ?_; intro U1 own1 grow1) | (at_make; refine wpList_make_full _ rfl (.tmp 30) (.tmp 30) 25 rfl U1.heap.size 2 i0 (.int .i64 0) 1 Tryd.underlying25 hi hz0 hz1 .i64 .i64 _ _ n rfl rfl rfl rfl (by rw [hz2]; omega) (by unfold maxLen; omega) (Nat.le_refl _) ?_; intro U2 own2 grow2))
  have mk : ∀ i, i < n → (madeCells (Value.int IntKind.i64 0).cells (n * 1)).toList[i]? = some (.int .i64 0) := fun i hi => by
    rw [Nat.mul_one, show (Value.int IntKind.i64 0).cells = #[Value.int IntKind.i64 0] from rfl, toList_madeCells_one, List.getElem?_replicate, if_pos hi]
  have lt1 := (own1.lt w.heap.size rfl).2
  have icp : IC w.heap.size n U1 (laid q 0) := (ic_of_own (F := fun _ => 0) own1 mk).congr fun i _ => laid_zero q i
  have icr : IC U1.heap.size n U2 (laid r 0) := (ic_of_own (F := fun _ => 0) own2 mk).congr fun i _ => laid_zero r i
  have icp2 : IC w.heap.size n U2 (laid q 0) := icp.other (grow2.block _ lt1 (by simp))
  have bel1 : Below w.heap.size w U1 := (Below.refl _ _).grown grow1 (Nat.le_refl _) (fun k hk => by cases hk)
  have bel2 : Below w.heap.size w U2 := bel1.grown grow2 bel1.size (fun k hk => by cases hk)
  have B2 : Hid (Below w.heap.size w U2) := bel2
  have ICP : Hid (IC w.heap.size n U2 (laid q 0)) := icp2
  have ICR : Hid (IC U1.heap.size n U2 (laid r 0)) := icr
  clear mk icp icr icp2 bel1 bel2 own1 own2 grow1 grow2
  obtain ⟨gp, hgp⟩ : ∃ gp, w.heap.size = gp := ⟨_, rfl⟩
  obtain ⟨gr, hgr⟩ : ∃ gr, U1.heap.size = gr := ⟨_, rfl⟩
  rw [hgp] at hg lt1 B2 ICP ⊢
  rw [hgr] at lt1 ICR ⊢
  go_wp2
  go_loopw [10, 11, 12, 35] (fun mm _ _ ii wr => ∃ k : Nat, k ≤ n ∧ ii = .int .i64 (k : Int) ∧ mm = .int .i64 (T - sumTo q k) ∧ Below gp w wr ∧ IC gp n wr (laid q k) ∧ IC gr n wr (laid r k)) (fun _ _ _ ii _ => n - (intOf ii).toNat)
  case atStart => exact ⟨0, by omega, rfl, by simp [sumTo], B2.out, ICP.out, ICR.out⟩
  case round =>
    obtain ⟨k, hk, rfl, rfl, hB, hP, hR⟩ := hrel
    by_cases hlt : (k : Int) < (n : Int)
    · have cx := (hB.cell (p := ⟨g, o + k, none⟩) hg).trans (HC.out k (by omega))
      have FK : Hid (∀ w, Calls Tryd.prog 28 #[.int .i64 T, .int .i64 (ws.getD k 0), .int .i64 W] w fun e w' => e = .returned (.tuple #[.int .i64 (q k), .int .i64 (r k), .bool true]) ∧ ∃ n, w' = w.drewN n) := FL.out k (by omega)
      have sk := MS.out.2.2 k (by omega)
      have sk1 := MS.out.2.2 (k + 1) (by omega)
      have pk := PL.out k (by omega)
      have ss : sumTo q (k + 1) = sumTo q k + q k := rfl
      rw [ss] at sk1
      have zp := hP.frozen k
      have zr := hR.frozen k
      have cp := hP.cell (i := k) (by omega)
      have cr := hR.cell (i := k) (by omega)
      have NX : Hid (∀ m, Below gp w (((wr.drewN m).setCell ⟨gp, k, none⟩ (.int .i64 (q k))).setCell ⟨gr, k, none⟩ (.int .i64 (r k))) ∧ IC gp n (((wr.drewN m).setCell ⟨gp, k, none⟩ (.int .i64 (q k))).setCell ⟨gr, k, none⟩ (.int .i64 (r k))) (laid q (k + 1)) ∧ IC gr n (((wr.drewN m).setCell ⟨gp, k, none⟩ (.int .i64 (q k))).setCell ⟨gr, k, none⟩ (.int .i64 (r k))) (laid r (k + 1))) := fun m => by
        have hP' : IC gp n (wr.drewN m) (laid q k) := hP
        have hR' : IC gr n (wr.drewN m) (laid r k) := hR
        have hB' : Below gp w (wr.drewN m) := ⟨hB.os, hB.tape, hB.output, hB.size, hB.block⟩
        have p1 := hP'.set (i := k) (by omega) (q k)
        have p2 := p1.other (w' := ((wr.drewN m).setCell ⟨gp, k, none⟩ (.int .i64 (q k))).setCell ⟨gr, k, none⟩ (.int .i64 (r k))) (Below.heap_setCell _ _ _ _ (by simp; omega))
        have r1 := hR'.other (w' := (wr.drewN m).setCell ⟨gp, k, none⟩ (.int .i64 (q k))) (Below.heap_setCell _ _ _ _ (by simp; omega))
        have r2 := r1.set (i := k) (by omega) (r k)
        exact ⟨(hB'.setCell (p := ⟨gp, k, none⟩) (Nat.le_refl _) _).setCell (p := ⟨gr, k, none⟩) (by show gp ≤ gr; omega) _, p2.congr fun i _ => (laid_step q k i).symm, r2.congr fun i _ => (laid_step r k i).symm⟩
      generalize ws.getD k 0 = x at *
      generalize hqk : q k = y at *
      generalize hrk : r k = z at *
      generalize hsk : sumTo q k = sg at *
      obtain ⟨sk0, sk2⟩ := sk
      obtain ⟨sk3, sk4⟩ := sk1
      obtain ⟨pk0, pk1⟩ := pk
      have SS : Hid (sumTo q (k + 1) = sg + y) := ss
      clear ss hqk hrk hsk hP hR hB
      go_wp2_with fail
      refine (FK.out _).mono ?_
      rintro e w1 ⟨rfl, m, hw1⟩; rw [hw1]; clear hw1 w1
      go_wp2_with fail
      go_roundw
      case rel => exact ⟨k + 1, by omega, by go_num, by rw [SS.out]; go_num, (NX.out m).1, (NX.out m).2.1, (NX.out m).2.2⟩
      case measure => simp [intOf]; omega
    · obtain rfl : k = n := by omega
      have hR2 : IC gr k wr r := hR.congr fun i hi => by unfold laid; rw [if_pos hi]
      have hP2 : IC gp k wr q := hP.congr fun i hi => by unfold laid; rw [if_pos hi]
      have ms := MS.out
      obtain ⟨M, hM⟩ : ∃ M, (T - sumTo q k).toNat = M := ⟨_, rfl⟩
      have hM' : T - sumTo q k = (M : Int) := by omega
      rw [hM'] at ms ⊢
      have M1 : M ≤ k := by omega
      have QB : Hid (0 < M → ∀ i, i < k → q i + 1 ≤ 9223372036854775807 ∧ 0 ≤ q i) := fun h0 i hi => by
        have a := Q0.out i hi; have b := PL.out i hi; omega
      have GF : Hid (Calls Tryd.prog 44 #[.slice (some ⟨gr, 0, none⟩) k k] wr fun e w' => ∃ g, e = .returned (.slice (some ⟨g, 0, none⟩) k k) ∧ wr.heap.size ≤ g ∧ Below wr.heap.size wr w' ∧ ∃ f, Cells g k w' f ∧ Shuf 0 k idf f ∧ Sorted r 0 k f) := great_any (by omega) hR2.lt (fun i hi => by rw [Nat.zero_add]; exact hR2.cell hi)
      have HP2 : Hid (IC gp k wr q) := hP2
      have HB : Hid (Below gp w wr) := hB
      have HMM : Hid ((T - sumTo q k).toNat = M) := hM
      clear hP hR hR2 hP2 hB hM ms MS PL Q0 FL HC hM'
      go_wp2_with fail
      refine GF.out.mono ?_
      rintro e w1 ⟨g3, rfl, hg3, b3, f, cf, sf, zf⟩
      have gplt := HP2.out.lt
      have ne3 : gp ≠ g3 := by omega
      have HP3 : Hid (IC gp k w1 q) := HP2.out.other (b3.block _ gplt)
      have HB3 : Hid (Below gp w w1) := HB.out.trans (b3.mono (by have := HB.out.size; omega))
      have CF : Hid (Cells g3 k w1 f) := cf
      have SF : Hid (Shuf 0 k idf f) := sf
      have ZF : Hid (Sorted r 0 k f) := zf
      have VF : Hid (∀ i, i < k → f i < k) := idf_val sf
      have FJ : Hid (∀ i j, i < j → j < k → f i ≠ f j) := fun i j h1 h2 e => by have := zf i j (Nat.zero_le _) h1 h2; rw [e] at this; exact this.irrefl
      clear GF HP2 HB b3 cf sf zf
      go_wp2
      go_loopw [14, 66] (fun _ ii wr => ∃ j : Nat, j ≤ M ∧ ii = .int .i64 (j : Int) ∧ Below gp w wr ∧ IC gp k wr (parts q f j) ∧ Cells g3 k wr f) (fun _ ii _ => M - (intOf ii).toNat)
      case atStart => exact ⟨0, by omega, rfl, HB3.out, HP3.out.congr fun i _ => by rw [parts_zero], CF.out⟩
      case round =>
        obtain ⟨j, hj, rfl, hB, hP, hF⟩ := hrel
        by_cases hjl : (j : Int) < (M : Int)
        · have cf := hF.cell (i := j) (by omega)
          have vf := VF.out j (by omega)
          have cp := hP.cell (i := f j) vf
          rw [parts_at q f j (fun i hi => FJ.out i j hi (by omega))] at cp
          have zp := hP.frozen (f j)
          have qb := QB.out (by omega) (f j) vf
          have p2 := (hP.set (i := f j) vf (q (f j) + 1)).congr fun i _ => (congrFun (parts_step q f j) i).symm
          have NX : Hid (Below gp w (wr.setCell ⟨gp, f j, none⟩ (.int .i64 (q (f j) + 1))) ∧ IC gp k (wr.setCell ⟨gp, f j, none⟩ (.int .i64 (q (f j) + 1))) (parts q f (j + 1)) ∧ Cells g3 k (wr.setCell ⟨gp, f j, none⟩ (.int .i64 (q (f j) + 1))) f) := by
            refine ⟨hB.setCell (p := ⟨gp, f j, none⟩) (Nat.le_refl _) _, p2, ?_⟩
            obtain ⟨cur, h1, h2, h3⟩ := hF
            exact ⟨cur, (Below.heap_setCell _ _ _ _ (by simp; omega)).trans h1, h2, h3⟩
          generalize q (f j) = y at *
          generalize f j = fj at *
          obtain ⟨qb1, qb0⟩ := qb
          have fjk : (fj : Int) < (k : Int) := by omega
          clear hB hP hF p2
          go_wp2
          go_roundw
          case rel => exact ⟨j + 1, by omega, by go_num, NX.out.1, NX.out.2.1, NX.out.2.2⟩
          case measure => simp [intOf]; omega
        · obtain rfl : j = M := by omega
          have fin : ∃ f, Shuf 0 k idf f ∧ Sorted r 0 k f ∧ IC gp k wr (parts q f (T - sumTo q k).toNat) := ⟨f, SF.out, ZF.out, by rw [HMM.out]; exact hP⟩
          go_wp2
          go_ret2
          exact ⟨gp, rfl, Nat.le_refl _, hB, fin⟩

end Go.Proofs.YtfdahdloihgjeacDoor
