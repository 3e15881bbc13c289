/-
  Ours: MexKept, MexKept2, MexPlay, joined.
-/
import Derived.Test.YtfdahdloihgjeacDoorMexC
import Derived.Test.YtfdahdloihgjeacDoorSplits
import Derived.Test.YtfdahdloihgjeacDoorTotals1
import Derived.Test.YtfdahdloihgjeacDoorRounds
import Derived.Test.YtfdahdloihgjeacDoorFloors
import Derived.Test.YtfdahdloihgjeacDoorMexA
namespace Go.Proofs.YtfdahdloihgjeacDoor
open Go.RowKit Go.Sort Go.Lib Spl

set_option maxRecDepth 20000 in
set_option maxHeartbeats 1000000 in
theorem texts_any (x : Int) (h0 : -9223372036854775808 ≤ x) (h1 : x ≤ 9223372036854775807) (l : List UInt8) (hs : l.length ≤ 9223372036854775807) (w : World) (ht : TabW w) (he : ErrW w) :
    Calls Tryd.prog 13 #[.int .i64 x, .string ⟨l.toArray⟩] w fun e w' => e = .returned (.bool true) ∧ Below w.heap.size w w' := by
  have F1 : Hid (∀ w, TabW w → Calls Tryd.prog 39 #[.int .i64 x] w fun e w' => e = .returned (.string ⟨(fmtL x).toArray⟩) ∧ Below w.heap.size w w') := fun w h => format_at x h0 h1 w h
  have F2 : Hid (∀ w, TabW w → Calls Tryd.prog 40 #[.int .i64 x] w fun e w' => e = .returned (.string ⟨(fmtL x).toArray⟩) ∧ Below w.heap.size w w') := fun w h => rformat_at x h0 h1 w h
  have P1 : Hid (∀ w, TabW w → ErrW w → ∃ p : Int × Bool, PrOk l p ∧ Calls Tryd.prog 41 #[.string ⟨l.toArray⟩] w fun e w' => Below w.heap.size w w' ∧ e = .returned (.tuple #[.int .i64 p.1, .bool p.2])) := fun w h k => parse_any l hs w h k
  have P2 : Hid (∀ w, TabW w → ∃ p : Int × Bool, PrOk l p ∧ Calls Tryd.prog 42 #[.string ⟨l.toArray⟩] w fun e w' => Below w.heap.size w w' ∧ e = .returned (.tuple #[.int .i64 p.1, .bool p.2])) := fun w h => rparse_any l hs w h
  have HT : Hid (TabW w) := ht
  have HE : Hid (ErrW w) := he
  clear ht he
  generalize (⟨(fmtL x).toArray⟩ : ByteArray) = S at *
  generalize (⟨l.toArray⟩ : ByteArray) = t at *
  have e0 : (S.toList != S.toList) = false := by simp
  go_enter Tryd.func13, Tryd.ntmps13
  go_wp2_with fail
  refine (F1.out _ HT.out).mono ?_
  rintro e w1 ⟨rfl, U1⟩
  have T1 : Hid (TabW w1) := tab_below HT.out U1
  have E1 : Hid (ErrW w1) := HE.out.below U1
  go_wp2_with fail
  refine (F2.out _ T1.out).mono ?_
  rintro e w2 ⟨rfl, U2⟩
  have T2 : Hid (TabW w2) := tab_below T1.out U2
  have E2 : Hid (ErrW w2) := E1.out.below U2
  have B2 := below_trans U1 U2
  go_wp2_with fail
  obtain ⟨p, ok1, C1⟩ := P1.out w2 T2.out E2.out
  have O1 : Hid (PrOk l p) := ok1
  clear ok1
  refine C1.mono ?_
  rintro e w3 ⟨U3, rfl⟩
  have T3 : Hid (TabW w3) := tab_below T2.out U3
  have B3 := below_trans B2 U3
  clear C1
  go_wp2_with fail
  obtain ⟨q, ok2, C2⟩ := P2.out w3 T3.out
  obtain rfl := prOk_uniq O1.out ok2
  clear ok2 O1
  refine C2.mono ?_
  rintro e w4 ⟨U4, rfl⟩
  clear C2
  obtain ⟨p1, p2⟩ := p
  simp only
  have e1 : (p1 == p1) = true := by simp
  have e2 : (p2 == p2) = true := by simp
  go_wp2_with fail
  go_ret
  exact ⟨rfl, below_trans B3 U4⟩

set_option maxHeartbeats 1000000 in
theorem gap_at (m : Int) (w : World) : Calls Tryd.prog 17 #[.int .i64 m] w fun e w' => ∃ v, e = .returned v ∧ Row 2 w.heap.size w' v (List.replicate 64 m) ∧ Below w.heap.size w w' := by
  obtain ⟨i0, hi, hz0, hz1, hz2⟩ := info_parts Tryd.info2
  go_enter Tryd.func17, Tryd.ntmps17
  go_wp2_with fail
  go_loopw [3, 4] (fun v vk wr => ∃ k : Nat, vk = .int .i64 (k : Int) ∧ k ≤ 64 ∧ Row 2 w.heap.size wr v (List.replicate k m) ∧ Below w.heap.size w wr) (fun _ vk _ => 64 - (RowKit.intOf vk).toNat)
  case atStart => exact ⟨0, rfl, by omega, Row.nil _ _ _, Below.refl _ _⟩
  case round =>
    obtain ⟨k, rfl, hk, hown, hnx⟩ := hrel
    have hsz := hnx.size
    have hl : (List.replicate k m).length < 1099511627776 := by rw [List.length_replicate]; omega
    by_cases hlt : (k : Int) < 64
    · go_wp2_with (at_builtin; refine wpList_push rfl (.tmp 9) (.tmp 11) 25 rfl 2 i0 Tryd.underlying25 hi hz0 hz1 hz2 w.heap.size w.heap.size w _ _ _ rfl hown hnx (Nat.le_refl _) hsz rfl hl ?_; intro v' w1 hown' hnx' hsz')
      go_roundw
      case rel => exact ⟨k + 1, by go_num, by omega, by rw [List.replicate_succ']; exact hown', hnx'⟩
      case measure => simp [RowKit.intOf]; omega
    · obtain rfl : k = 64 := by omega
      go_wp2_with fail
      go_ret
      exact ⟨_, rfl, hown, hnx⟩

/-- append onto a full row: a new row; only its length is told. -/
theorem wpList_full {P : Program} {wr : World} {ops : Array Oper} {rest : List Oper} {o : Oper} {a : Act} {Q : Exit → Act → World → Prop} (hgd : o.guard = none) (s x : Operand) (t : TypeId)
    (ho : o.op = .call { callee := .builtin .append, args := #[s, x], argTypes := #[t, t] })
    (e : TypeId) (i : TypeInfo) (ht : P.underlying t = some (.slice e)) (hi : P.info? e = some i) (hz : i.zero = some (.int .i64 0)) (hsize : i.size = 1) (hby : i.bytes = 8)
    (ao : Option Addr) (n : Nat) (hn : n ≤ 1000000) (hs : a.eval s = .slice ao n n) (hnone : ao = none → n = 0) (olds : List Value) (hlo : olds.length = n) (holds : ∀ b, ao = some b → ∀ j u, olds[j]? = some u → wr.cell? (b.add j) = some u)
    (base : Nat) (v2 : Value) (gs : List Int) (hgs : gs.length = 64) (hx : a.eval x = v2) (hr : Row e base wr v2 gs)
    (h : ∀ ao' cap' w', Below wr.heap.size wr w' → wpList P ops Q rest (a.put o.dst (.slice ao' (n + 64) cap')) w') :
    wpList P ops Q (o :: rest) a wr := by
  obtain ⟨g, cap, rfl, _, lt, hc, hm, cell, _⟩ := hr.arr (by omega)
  rw [hgs] at hx cell
  refine wpList_append_grows wr hgd s x t ho e i (.int .i64 0) 1 8 ht hi hz hsize hby rfl (by decide) ao n n olds hs (fun h => ⟨hnone h, hnone h⟩) (by omega) holds ⟨g, 0, none⟩ 64 cap (gs.map (Value.int .i64)) hx (by simp [hgs]) ?_ ?_ (by omega) (by unfold maxLen; omega) (by omega) ?_
  · intro j u hj
    have hj' : j < gs.length := by have := (List.getElem?_eq_some_iff.1 hj).1; simpa using this
    have hadd : (⟨g, 0, none⟩ : Addr).add j = ⟨g, j, none⟩ := by unfold Addr.add; split <;> simp_all
    rw [List.getElem?_map, List.getElem?_eq_getElem hj'] at hj
    rw [hadd, cell j (by omega), List.getD_eq_getElem?_getD, List.getElem?_eq_getElem hj']
    exact hj
  · intro u hu
    obtain ⟨x, _, rfl⟩ := List.mem_map.1 hu; rfl
  · intro v' w' r1 gr
    have r2 : w'.ownsRow wr.heap.size e 1 v' (n + 64) (olds ++ gs.map (Value.int .i64)) := r1
    rcases r2.2 with ⟨_, h0⟩ | ⟨g', c', cur, rfl, _⟩
    · omega
    · exact h _ _ _ ⟨gr.os, gr.tape, gr.output, gr.size, fun k hk => gr.block k hk (by simp)⟩
end Go.Proofs.YtfdahdloihgjeacDoor

namespace Go.Proofs.YtfdahdloihgjeacDoor
open Go.RowKit Go.Sort Go.Lib Spl

theorem grown_trans {a b c : World} {row : Option Nat} (h : a.grownBy b row) (k : b.grownBy c row) : a.grownBy c row :=
  ⟨k.os.trans h.os, k.tape.trans h.tape, k.output.trans h.output, Nat.le_trans h.size k.size, fun i hi hn => (k.block i (Nat.lt_of_lt_of_le hi h.size) hn).trans (h.block i hi hn)⟩
theorem grown_refl (a : World) (row : Option Nat) : a.grownBy a row := ⟨rfl, rfl, rfl, Nat.le_refl _, fun _ _ _ => rfl⟩
theorem grown_below {a b : World} (h : Below a.heap.size a b) (row : Option Nat) : a.grownBy b row := ⟨h.os, h.tape, h.output, h.size, fun k hk _ => h.block k hk⟩
theorem grown_set (w : World) (g i : Nat) (u : Value) : w.grownBy (w.setCell ⟨g, i, none⟩ u) (some g) := ⟨rfl, rfl, rfl, Nat.le_of_eq (by simp), fun k _ hk => Below.heap_setCell _ _ _ _ (fun e => hk (by rw [e]))⟩
theorem below_of_grown {w a b : World} {g : Nat} (h : Below w.heap.size w a) (k : a.grownBy b (some g)) (hg : w.heap.size ≤ g) : Below w.heap.size w b :=
  ⟨k.os.trans h.os, k.tape.trans h.tape, k.output.trans h.output, Nat.le_trans h.size k.size, fun i hi => (k.block i (Nat.lt_of_lt_of_le hi h.size) (fun e => by injection e with e; omega)).trans (h.block i hi)⟩
theorem Reads.kept {w w' : World} {v : Value} {xs : List Int} {g : Nat} (h : Reads w v xs) (hb : w.grownBy w' (some g)) (hv : v.ownBlock ≠ some g) : Reads w' v xs := by
  rcases h with h | ⟨h0, b, o, cap, rfl, hc, hg, hx⟩
  · exact .inl h
  · refine .inr ⟨h0, b, o, cap, rfl, hc, Nat.lt_of_lt_of_le hg hb.size, fun i hi => ?_⟩
    rw [World.cell?_of_block (a := ⟨b, o + i, none⟩) (hb.block b hg (fun e => hv e))]
    exact hx i hi
theorem Reads.block_lt {w : World} {v : Value} {xs : List Int} (h : Reads w v xs) (h0 : 0 < xs.length) {g : Nat} (hg : v.ownBlock = some g) : g < w.heap.size := by
  rcases h with ⟨rfl, _⟩ | ⟨_, b, o, cap, rfl, _, hb, _⟩
  · simp at h0
  · cases hg; exact hb

set_option maxRecDepth 100000 in
set_option maxHeartbeats 1000000 in
theorem kept_at (ws : List Int) (L : Value) (K A B C : Int) (T : ByteArray) (mk : Int) (w : World) (hR : Reads w L ws) (hx : I64 ws) (hl : ws.length ≤ 4096) (a0 : -9223372036854775808 ≤ A) (a1 : A ≤ 9223372036854775807) (m0 : 0 ≤ mk) (m1 : mk ≤ 9223372036854775806) :
    Calls Tryd.prog 6 #[.agg #[.int .i64 K, .int .i64 A, .int .i64 B, .int .i64 C, L, .string T], .int .i64 mk] w fun e w' => e = .returned (.bool true) ∧ Below w.heap.size w w' := by
  obtain ⟨i0, hi, hz0, hz1, hz2⟩ := info_parts Tryd.info2
  obtain ⟨aL, nL, cL, rfl, hnL⟩ : ∃ a n c, L = .slice a n c ∧ n = ws.length := by
    rcases hR with ⟨rfl, a, c, rfl⟩ | ⟨_, g, o, c, rfl, _⟩
    · exact ⟨a, 0, c, rfl, rfl⟩
    · exact ⟨_, _, _, rfl, rfl⟩
  subst hnL
  have BW := (Below.refl w.heap.size w).alloc (Nat.le_refl _) (.cells #[.int .i64 K, .int .i64 A, .int .i64 B, .int .i64 C, .slice aL ws.length cL, .string T] 27)
  have LW : w.heap.size < (w.alloc (.cells #[.int .i64 K, .int .i64 A, .int .i64 B, .int .i64 C, .slice aL ws.length cL, .string T] 27)).heap.size := by simp
  have CA : (w.alloc (.cells #[.int .i64 K, .int .i64 A, .int .i64 B, .int .i64 C, .slice aL ws.length cL, .string T] 27)).cell? ⟨w.heap.size, 1, none⟩ = some (.int .i64 A) := by simp
  have CL : (w.alloc (.cells #[.int .i64 K, .int .i64 A, .int .i64 B, .int .i64 C, .slice aL ws.length cL, .string T] 27)).cell? ⟨w.heap.size, 4, none⟩ = some (.slice aL ws.length cL) := by simp
  have RL : Hid (∀ w', Below w.heap.size w w' → Reads w' (.slice aL ws.length cL) ws) := fun w' h => hR.later h
  have CP : Hid (∀ w v, Reads w v ws → Calls Tryd.prog 14 #[v] w fun e w' => ∃ v', e = .returned v' ∧ Row 2 w.heap.size w' v' ws ∧ Below w.heap.size w w') := fun w v h => copied_reads h (by omega)
  have SP : Hid (∀ w v, Reads w v ws → Calls Tryd.prog 15 #[.int .i64 A, v] w (SplitAns A ws w)) := fun w v h => split_ans h hx (by omega) a0 a1
  have SN : Hid (¬ (0 ≤ A ∧ adOk ws = true) → ∀ w', Below w.heap.size w w' → Calls Tryd.prog 16 #[.int .i64 A, .slice aL ws.length cL] w' fun e w'' => e = .returned (.tuple #[.slice none 0 0, .bool false]) ∧ w'' = w') := fun no w' h => rsplit_refused (hR.later h) hx (by omega) no
  have GP : Hid (∀ w, Calls Tryd.prog 17 #[.int .i64 (-mk - 2)] w fun e w' => ∃ v, e = .returned v ∧ Row 2 w.heap.size w' v (List.replicate 64 (-mk - 2)) ∧ Below w.heap.size w w') := fun w => gap_at _ w
  have HX : Hid (I64 ws) := hx
  have SM : Hid (∀ w v v2 (xs : List Int), xs.length ≤ 1048576 → Reads w v xs → Reads w v2 xs → Calls Tryd.prog 18 #[v, v2] w fun e w' => e = .returned (.bool true) ∧ ∃ n, w' = w.drewN n) := fun w v v2 xs hl h h2 => same_reads h h2 hl
  have HRW : Hid (Reads w (.slice aL ws.length cL) ws) := hR
  clear hR hx
  go_enter Tryd.func6, Tryd.ntmps6
  go_wp2_with fail
  generalize w.alloc (.cells #[.int .i64 K, .int .i64 A, .int .i64 B, .int .i64 C, .slice aL ws.length cL, .string T] 27) = W0 at *
  refine (CP.out _ _ (RL.out _ BW)).mono ?_
  rintro e w1 ⟨v1, rfl, r1, b1⟩
  have B1 : Below w.heap.size w w1 := below_trans BW b1
  have cA1 : w1.cell? ⟨w.heap.size, 1, none⟩ = some (.int .i64 A) := (b1.cell (p := ⟨w.heap.size, 1, none⟩) LW).trans CA
  have R1 : Hid (Reads w1 v1 ws) := r1.reads
  have V1 : Hid (∀ g, v1.ownBlock = some g → W0.heap.size ≤ g ∧ g < w1.heap.size) := fun g hg => World.ownsRow.lt r1 g hg
  clear r1
  go_wp2_with fail
  refine (SP.out _ _ R1.out).mono ?_
  rintro e w2 (⟨rfl, hw, no⟩ | ⟨gp, f, rfl, hgp, b2, _, ic2, n0, n1, A0, ad⟩)
  · rw [hw]; clear hw w2
    have NO : Hid (¬ (0 ≤ A ∧ adOk ws = true)) := no
    clear no
    go_wp2_with fail
    refine (SP.out _ _ R1.out).mono ?_
    rintro e w2 (⟨rfl, hw, _⟩ | ⟨_, _, _, _, _, _, _, _, _, A0, ad⟩)
    rotate_left
    · exact absurd ⟨A0, ad⟩ NO.out
    rw [hw]; clear hw w2
    have cL1 : w1.cell? ⟨w.heap.size, 4, none⟩ = some (.slice aL ws.length cL) := (b1.cell (p := ⟨w.heap.size, 4, none⟩) LW).trans CL
    go_wp2_with fail
    refine (SN.out NO.out _ B1).mono ?_
    rintro e w2 ⟨rfl, hw⟩; rw [hw]; clear hw w2
    go_wp2_with fail
    go_loopw [12] (fun vk wr => wr = w1 ∧ vk = .int .i64 0) (fun _ _ => 0)
    case atStart => exact ⟨rfl, rfl⟩
    case round =>
      obtain ⟨rfl, rfl⟩ := hrel
      go_wp2_with fail
      refine (GP.out _).mono ?_
      rintro e w2 ⟨v2, rfl, r2, b2⟩
      have lgs : (List.replicate 64 (-mk - 2)).length = 64 := List.length_replicate
      generalize List.replicate 64 (-mk - 2) = gs at *
      go_wp2_with (at_builtin; refine wpList_full rfl (.tmp 51) (.tmp 55) 25 rfl 2 i0 Tryd.underlying25 hi hz0 hz1 hz2 none 0 (by decide) rfl (fun _ => rfl) [] rfl (fun b h => by cases h) wr.heap.size _ _ lgs rfl r2 ?_; intro ao cap w3 b3)
      have B3 := below_trans B1 (below_trans b2 b3)
      have R3 : Hid (Reads w3 v1 ws) := (R1.out.later b2).later b3
      have L3 : Hid (Reads w3 (.slice aL ws.length cL) ws) := RL.out _ B3
      have c4 : w3.cell? ⟨w.heap.size, 4, none⟩ = some (.slice aL ws.length cL) := ((below_trans (below_trans b1 b2) b3).cell (p := ⟨w.heap.size, 4, none⟩) LW).trans CL
      clear r2 lgs
      refine (same_empty none none 0 0 _).mono ?_
      rintro e w4 ⟨rfl, k1, hw⟩; rw [hw]; clear hw w4
      go_wp2_with fail
      refine (SM.out (w3.drewN k1) _ _ ws (by omega) R3.out L3.out).mono ?_
      rintro e w4 ⟨rfl, k2, hw⟩; rw [hw]; clear hw w4
      go_wp2_with fail
      go_ret
      exact ⟨rfl, ⟨B3.os, B3.tape, B3.output, B3.size, B3.block⟩⟩
  · have B2 : Below w.heap.size w w2 := below_trans B1 b2
    have cA2 : w2.cell? ⟨w.heap.size, 1, none⟩ = some (.int .i64 A) := ((below_trans b1 b2).cell (p := ⟨w.heap.size, 1, none⟩) LW).trans CA
    have R2 : Hid (Reads w2 v1 ws) := R1.out.later b2
    have AD : Hid (adOk ws = true) := ad
    have gl := ic2.lt
    have IP : Hid (IC gp ws.length w2 (prt A (total ws) (fun i => ws.getD i 0) ws.length f)) := ic2
    clear ad ic2
    go_wp2_with fail
    refine (SP.out _ _ R2.out).mono ?_
    rintro e w3 (⟨rfl, hw, no⟩ | ⟨gq, f2, rfl, hgq, b3, sh, ic3, _, _, _, ad⟩)
    · exact absurd ⟨A0, AD.out⟩ no
    · have B3 : Below w.heap.size w w3 := below_trans B2 b3
      have D3 := below_trans (below_trans b1 b2) b3
      have cA3 : w3.cell? ⟨w.heap.size, 1, none⟩ = some (.int .i64 A) := (D3.cell (p := ⟨w.heap.size, 1, none⟩) LW).trans CA
      have cL3 : w3.cell? ⟨w.heap.size, 4, none⟩ = some (.slice aL ws.length cL) := (D3.cell (p := ⟨w.heap.size, 4, none⟩) LW).trans CL
      have tw : total ws ≤ 9223372036854775807 := by
        have g2 := of_decide_eq_true (show decide _ = true from ad)
        have sm := of_decide_eq_true (show decide _ = true from g2.2.2.1)
        exact sm.2
      obtain ⟨gL, oL, rfl, hcL, hgL, cellL⟩ : ∃ g o, aL = some ⟨g, o, none⟩ ∧ ws.length ≤ cL ∧ g < w.heap.size ∧ ∀ i, i < ws.length → w.cell? ⟨g, o + i, none⟩ = some (.int .i64 (ws.getD i 0)) := by
        rcases HRW.out with ⟨rfl, _⟩ | ⟨_, g, o, c, e, hc, hg, hcell⟩
        · simp at n0
        · cases e; exact ⟨g, o, rfl, hc, hg, hcell⟩
      have RR : Hid (Calls Tryd.prog 16 #[.int .i64 A, .slice (some ⟨gL, oL, none⟩) ws.length cL] w3 (RefSplitAns ws.length (prt A (total ws) (fun i => ws.getD i 0) ws.length f2) w3)) := rsplit_yes A (total ws) ws f2 gL oL cL w3 HX.out n0 n1 (Nat.lt_of_lt_of_le hgL B3.size) A0 a1 (fun i hi => (B3.cell (p := ⟨gL, oL + i, none⟩) hgL).trans (cellL i hi)) ad rfl tw sh
      have IQ : Hid (IC gq ws.length w3 (prt A (total ws) (fun i => ws.getD i 0) ws.length f2)) := ic3
      clear sh ad tw cellL ic3
      go_wp2_with fail
      refine RR.out.mono ?_
      rintro e w4 ⟨gr, cr, rfl, hcr, b4, ic4, hgr⟩
      have IR : Hid (IC gr ws.length w4 (prt A (total ws) (fun i => ws.getD i 0) ws.length f2)) := ic4
      have IQ4 : Hid (IC gq ws.length w4 (prt A (total ws) (fun i => ws.getD i 0) ws.length f2)) := IQ.out.other (b4.block gq IQ.out.lt)
      have IP4 : Hid (IC gp ws.length w4 (prt A (total ws) (fun i => ws.getD i 0) ws.length f)) := (IP.out.other (b3.block gp gl)).other (b4.block gp (Nat.lt_of_lt_of_le gl b3.size))
      have B4 : Below w.heap.size w w4 := below_trans B3 b4
      have D4 := below_trans D3 b4
      have gr_ne : Hid (gr ≠ gp) := fun e => by have := b3.size; omega
      have gq_ne : Hid (gq ≠ gp) := fun e => by omega
      have hwp : w.heap.size ≤ gp := by have := b1.size; have := BW.size; omega
      clear ic4 RR
      go_wp2_with fail
      go_loopw [12] (fun vk wr => ∃ (k : Nat) (F : Nat → Int), vk = .int .i64 (k : Int) ∧ k ≤ ws.length ∧ IC gp ws.length wr F ∧ w4.grownBy wr (some gp)) (fun vk _ => ws.length - (RowKit.intOf vk).toNat)
      case atStart => exact ⟨0, _, rfl, by omega, IP4.out, grown_refl _ _⟩
      case round =>
        obtain ⟨k, F, rfl, hk, ic, gr4⟩ := hrel
        by_cases hlt : (k : Int) < (ws.length : Int)
        · have cc := ic.cell (i := k) (by omega)
          have fz := ic.frozen k
          have IS : Hid (IC gp ws.length (wr.setCell ⟨gp, k, none⟩ (.int .i64 (-mk - 1))) (fun j => if j = k then -mk - 1 else F j)) := ic.set (by omega) _
          have GS : Hid (w4.grownBy (wr.setCell ⟨gp, k, none⟩ (.int .i64 (-mk - 1))) (some gp)) := grown_trans gr4 (grown_set wr gp k _)
          clear ic
          go_wp2_with fail
          go_roundw
          case rel => exact ⟨k + 1, _, by go_num, by omega, IS.out, GS.out⟩
          case measure => simp [RowKit.intOf]; omega
        · obtain rfl : k = ws.length := by omega
          have mr : Hid (∀ x, x = -mk - 2 → x = -mk - 2) := fun _ h => h
          go_wp2_with fail
          refine (GP.out _).mono ?_
          rintro e w5 ⟨v5, rfl, r5, b5⟩
          have lgs : (List.replicate 64 (-mk - 2)).length = 64 := List.length_replicate
          generalize List.replicate 64 (-mk - 2) = gs at *
          have ic5 : IC gp ws.length w5 F := ic.other (b5.block gp ic.lt)
          have HO : Hid (∀ b, some (⟨gp, 0, none⟩ : Addr) = some b → ∀ (j : Nat) (u : Value), ((lst F ws.length).map (Value.int .i64))[j]? = some u → w5.cell? (b.add j) = some u) := fun b hb j u hj => by
            cases hb
            have hj' : j < ws.length := by have := (List.getElem?_eq_some_iff.1 hj).1; simpa [lst_length] using this
            have hadd : (⟨gp, 0, none⟩ : Addr).add j = ⟨gp, j, none⟩ := by unfold Addr.add; split <;> simp_all
            rw [hadd, ic5.cell hj', ← hj]
            simp [lst, hj']
          have HL : Hid (((lst F ws.length).map (Value.int .i64)).length = ws.length) := by show _ = _; simp [lst_length]
          have nn : ws.length ≤ 1000000 := by omega
          go_wp2_with (at_builtin; refine wpList_full rfl (.tmp 51) (.tmp 55) 25 rfl 2 i0 Tryd.underlying25 hi hz0 hz1 hz2 (some ⟨gp, 0, none⟩) ws.length nn rfl (fun h => by cases h) ((lst F ws.length).map (Value.int .i64)) HL.out HO.out wr.heap.size _ _ lgs rfl r5 ?_; intro ao cap w6 b6)
          have g46 : w4.grownBy w6 (some gp) := grown_trans gr4 (grown_below (below_trans b5 b6) _)
          have B6 : Below w.heap.size w w6 := below_of_grown B4 g46 hwp
          have q6 : Hid (Reads w6 (.slice (some ⟨gq, 0, none⟩) ws.length ws.length) (lst (prt A (total ws) (fun i => ws.getD i 0) ws.length f2) ws.length)) := ((IQ4.out.reads n0 (Nat.le_refl _)).kept g46 (by simp [Value.ownBlock]; exact gq_ne.out))
          have r6 : Hid (Reads w6 (.slice (some ⟨gr, 0, none⟩) ws.length cr) (lst (prt A (total ws) (fun i => ws.getD i 0) ws.length f2) ws.length)) := ((IR.out.reads n0 hcr).kept g46 (by simp [Value.ownBlock]; exact gr_ne.out))
          have v6 : Hid (Reads w6 v1 ws) := (((R2.out.later b3).later b4).kept g46 (fun e => by have := (V1.out gp e).2; omega))
          have l6 : Hid (Reads w6 (.slice (some ⟨gL, oL, none⟩) ws.length cL) ws) := RL.out _ B6
          have c4 : w6.cell? ⟨w.heap.size, 4, none⟩ = some (.slice (some ⟨gL, oL, none⟩) ws.length cL) := by
            rw [World.cell?_of_block (a := ⟨w.heap.size, 4, none⟩) (g46.block w.heap.size (Nat.lt_of_lt_of_le LW D4.size) (fun e => by injection e with e; have := b1.size; omega))]
            exact (D4.cell (p := ⟨w.heap.size, 4, none⟩) LW).trans CL
          have lq : (lst (prt A (total ws) (fun i => ws.getD i 0) ws.length f2) ws.length).length ≤ 1048576 := by rw [lst_length]; omega
          clear ic ic5 r5 lgs gr4 HO HL mr
          refine (SM.out w6 _ _ _ lq q6.out r6.out).mono ?_
          rintro e w7 ⟨rfl, k1, hw⟩; rw [hw]; clear hw w7
          go_wp2_with fail
          refine (SM.out (w6.drewN k1) _ _ ws (by omega) v6.out l6.out).mono ?_
          rintro e w7 ⟨rfl, k2, hw⟩; rw [hw]; clear hw w7
          go_wp2_with fail
          go_ret
          exact ⟨rfl, ⟨B6.os, B6.tape, B6.output, B6.size, B6.block⟩⟩
end Go.Proofs.YtfdahdloihgjeacDoor

namespace Go.Proofs.YtfdahdloihgjeacDoor
open Go.RowKit Go.Sort Go.Lib Spl

def B64 (n : Int) : Prop := -9223372036854775808 ≤ n ∧ n ≤ 9223372036854775807
/-- A list that came in. -/
def LsOk (w : World) (a : Option Addr) (len cap : Nat) : Prop := len ≤ 9223372036854775807 ∧ (4096 < len ∨ ∃ ws : List Int, ws.length = len ∧ I64 ws ∧ Reads w (.slice a len cap) ws)
theorem LsOk.later {w w' : World} {a : Option Addr} {len cap : Nat} (h : LsOk w a len cap) (hb : Below w.heap.size w w') : LsOk w' a len cap := by
  obtain ⟨h1, h2⟩ := h
  refine ⟨h1, ?_⟩
  rcases h2 with h | ⟨ws, e, hx, hr⟩
  · exact .inl h
  · exact .inr ⟨ws, e, hx, hr.later hb⟩
theorem splits_ls (a : Option Addr) (len cap : Nat) (T : Int) (w : World) (h : LsOk w a len cap) (hT : B64 T) :
    Calls Tryd.prog 11 #[.int .i64 T, .slice a len cap] w fun e w' => e = .returned (.bool true) ∧ Below w.heap.size w w' := by
  obtain ⟨h1, h2⟩ := h
  by_cases h3 : 4096 < len
  · exact splits_long _ _ _ _ w h3 h1
  · rcases h2 with h | ⟨ws, rfl, hx, hr⟩
    · omega
    · rcases hr with ⟨rfl, _⟩ | ⟨h0, g, o, c, e, hc, hg, cell⟩
      · exact splits_empty a cap T w hT.1 hT.2
      · cases e; exact splits_full ws g o cap T w hx h0 (by omega) hc hg hT.1 hT.2 cell
theorem totals_ls (a : Option Addr) (len cap : Nat) (w : World) (h : LsOk w a len cap) :
    Calls Tryd.prog 10 #[.slice a len cap] w fun e w' => e = .returned (.bool true) ∧ Below w.heap.size w w' := by
  obtain ⟨h1, h2⟩ := h
  by_cases h3 : 4096 < len
  · exact totals_long _ _ _ w h3 h1
  · rcases h2 with h | ⟨ws, rfl, hx, hr⟩
    · omega
    · rcases hr with ⟨rfl, _⟩ | ⟨h0, g, o, c, e, hc, hg, cell⟩
      · exact totals_empty a cap w
      · cases e; exact totals_full ws g o cap w hx h0 (by omega) hc hg cell

set_option maxRecDepth 100000 in
set_option maxHeartbeats 1000000 in
theorem plays_at (kd A B C : Int) (s : Option Addr) (len cap : Nat) (t : List UInt8) (w : World) (hA : B64 A) (hB : B64 B) (hC : B64 C) (hs : LsOk w s len cap) (hl : t.length ≤ 9223372036854775807) (ht : TabW w) (he : ErrW w) :
    Calls Tryd.prog 5 #[.agg #[.int .i64 kd, .int .i64 A, .int .i64 B, .int .i64 C, .slice s len cap, .string ⟨t.toArray⟩]] w fun e w' => e = .returned (.bool true) ∧ Below w.heap.size w w' := by
  have W1 : Hid (∀ w : World, Calls Tryd.prog 7 #[.int .i64 A, .int .i64 B] w fun e w' => e = .returned (.bool true) ∧ Below w.heap.size w w') := fun w => sums_any A B hA.1 hA.2 hB.1 hB.2 w
  have W2 : Hid (∀ w : World, Calls Tryd.prog 8 #[.int .i64 A, .int .i64 B, .int .i64 C] w fun e w' => e = .returned (.bool true) ∧ Below w.heap.size w w') := fun w => rounds_any A B C hA.1 hA.2 hB.1 hB.2 hC.1 hC.2 w
  have W3 : Hid (∀ w : World, Calls Tryd.prog 9 #[.int .i64 A, .int .i64 B, .int .i64 C] w fun e w' => e = .returned (.bool true) ∧ Below w.heap.size w w') := fun w => floors_any A B C hA.1 hA.2 hB.1 hB.2 hC.1 hC.2 w
  have W4 : Hid (∀ w : World, LsOk w s len cap → Calls Tryd.prog 10 #[.slice s len cap] w fun e w' => e = .returned (.bool true) ∧ Below w.heap.size w w') := fun w h => totals_ls s len cap w h
  have W5 : Hid (∀ w : World, LsOk w s len cap → Calls Tryd.prog 11 #[.int .i64 A, .slice s len cap] w fun e w' => e = .returned (.bool true) ∧ Below w.heap.size w w') := fun w h => splits_ls s len cap A w h hA
  have W6 : Hid (∀ w : World, Calls Tryd.prog 12 #[.int .i64 A, .int .i64 B, .int .i64 C] w fun e w' => e = .returned (.bool true) ∧ w' = w) := fun w => clamps_any A B C hA.1 hA.2 hB.1 hB.2 hC.1 hC.2 w
  have W7 : Hid (∀ w : World, TabW w → ErrW w → Calls Tryd.prog 13 #[.int .i64 A, .string ⟨t.toArray⟩] w fun e w' => e = .returned (.bool true) ∧ Below w.heap.size w w') := fun w h k => texts_any A hA.1 hA.2 t hl w h k
  have HT : Hid (TabW w) := ht
  have HE : Hid (ErrW w) := he
  have HS : Hid (LsOk w s len cap) := hs
  clear ht he hs hA hB hC hl
  generalize (⟨t.toArray⟩ : ByteArray) = tt at *
  have b0 := fun o => (Below.refl w.heap.size w).alloc (Nat.le_refl _) o
  go_enter Tryd.func5, Tryd.ntmps5
  go_wp2_with fail
  · refine (W1.out _).mono ?_
    rintro e w1 ⟨rfl, V1⟩
    go_wp2_with fail
    go_ret
    exact ⟨rfl, below_trans (b0 _) V1⟩
  · refine (W2.out _).mono ?_
    rintro e w1 ⟨rfl, V1⟩
    go_wp2_with fail
    go_ret
    exact ⟨rfl, below_trans (b0 _) V1⟩
  · refine (W3.out _).mono ?_
    rintro e w1 ⟨rfl, V1⟩
    go_wp2_with fail
    go_ret
    exact ⟨rfl, below_trans (b0 _) V1⟩
  · refine (W4.out _ (HS.out.later (b0 _))).mono ?_
    rintro e w1 ⟨rfl, V1⟩
    go_wp2_with fail
    go_ret
    exact ⟨rfl, below_trans (b0 _) V1⟩
  · refine (W5.out _ (HS.out.later (b0 _))).mono ?_
    rintro e w1 ⟨rfl, V1⟩
    go_wp2_with fail
    go_ret
    exact ⟨rfl, below_trans (b0 _) V1⟩
  · refine (W6.out _).mono ?_
    rintro e w1 ⟨rfl, hw⟩; rw [hw]; clear hw w1
    go_wp2_with fail
    go_ret
    exact ⟨rfl, b0 _⟩
  · refine (W7.out _ (tab_below HT.out (b0 _)) (HE.out.below (b0 _))).mono ?_
    rintro e w1 ⟨rfl, V1⟩
    go_wp2_with fail
    go_ret
    exact ⟨rfl, below_trans (b0 _) V1⟩
  · go_ret
    exact ⟨rfl, b0 _⟩

/-- A script: so many calls, each six cells. -/
def ScrOk (w : World) (a : Option Addr) (n : Nat) : Prop :=
  n ≤ 9223372036854775807 ∧ (n = 0 ∨ ∃ b off : Nat, a = some ⟨b, off, none⟩ ∧ b < w.heap.size ∧ ∀ i, i < n → ∃ (kd A B C : Int) (s : Option Addr) (len cap : Nat) (t : List UInt8), (B64 A ∧ B64 B ∧ B64 C ∧ LsOk w s len cap ∧ t.length ≤ 9223372036854775807) ∧
    w.cell? ⟨b, off + i * 6, none⟩ = some (.int .i64 kd) ∧ w.cell? ⟨b, off + i * 6 + 1, none⟩ = some (.int .i64 A) ∧ w.cell? ⟨b, off + i * 6 + 2, none⟩ = some (.int .i64 B) ∧ w.cell? ⟨b, off + i * 6 + 3, none⟩ = some (.int .i64 C) ∧
    w.cell? ⟨b, off + i * 6 + 4, none⟩ = some (.slice s len cap) ∧ w.cell? ⟨b, off + i * 6 + 5, none⟩ = some (.string ⟨t.toArray⟩))

set_option maxRecDepth 100000 in
set_option maxHeartbeats 1000000 in
theorem exact_walk (a : Option Addr) (n cap : Nat) (w : World) (h : ScrOk w a n) (ht : TabW w) (he : ErrW w) :
    Calls Tryd.prog 3 #[.slice a n cap] w fun e w' => e = .returned (.bool true) ∧ Below w.heap.size w w' := by
  obtain ⟨h1, h2⟩ := h
  have H2 : Hid (n = 0 ∨ ∃ b off : Nat, a = some ⟨b, off, none⟩ ∧ b < w.heap.size ∧ ∀ i, i < n → ∃ (kd A B C : Int) (s : Option Addr) (len cap : Nat) (t : List UInt8), (B64 A ∧ B64 B ∧ B64 C ∧ LsOk w s len cap ∧ t.length ≤ 9223372036854775807) ∧
    w.cell? ⟨b, off + i * 6, none⟩ = some (.int .i64 kd) ∧ w.cell? ⟨b, off + i * 6 + 1, none⟩ = some (.int .i64 A) ∧ w.cell? ⟨b, off + i * 6 + 2, none⟩ = some (.int .i64 B) ∧ w.cell? ⟨b, off + i * 6 + 3, none⟩ = some (.int .i64 C) ∧
    w.cell? ⟨b, off + i * 6 + 4, none⟩ = some (.slice s len cap) ∧ w.cell? ⟨b, off + i * 6 + 5, none⟩ = some (.string ⟨t.toArray⟩)) := h2
  have HT : Hid (TabW w) := ht
  have HE : Hid (ErrW w) := he
  have AD : Hid (∀ w, Calls Tryd.prog 4 #[.int .i64 1, .int .i64 2] w fun e w' => e = .returned (.tuple #[.int .i64 3, .bool true]) ∧ w' = w) := fun w => (add_any 1 2 (by omega) (by omega) (by omega) (by omega) w).mono fun e w' ⟨he, hw⟩ => ⟨by rw [he]; exact ret_vk (by decide) (by decide), hw⟩
  clear ht he h2
  go_enter Tryd.func3, Tryd.ntmps3
  go_wp2_with fail
  refine (AD.out _).mono ?_
  rintro e w1 ⟨rfl, hw⟩; rw [hw]; clear hw w1
  go_wp2_with fail
  go_loopw [5] (fun ii wr => ∃ k : Nat, k ≤ n ∧ ii = .int .i64 (k : Int) ∧ Hid (Below w.heap.size w wr)) (fun ii _ => n - (RowKit.intOf ii).toNat)
  case atStart => exact ⟨0, by omega, rfl, Below.refl _ _⟩
  case round =>
    obtain ⟨k, hk, rfl, U⟩ := hrel
    by_cases hlt : (k : Int) < (n : Int)
    · rcases H2.out with h0 | ⟨b, off, rfl, hb, hc⟩
      · omega
      · obtain ⟨kd, A, B, C, s, len, c, t, ⟨hA, hB, hC, hls, htl⟩, e0, e1, e2, e3, e4, e5⟩ := hc k (by omega)
        have f0 := (U.out.cell (p := ⟨b, off + k * 6, none⟩) hb).trans e0
        have f1 := (U.out.cell (p := ⟨b, off + k * 6 + 1, none⟩) hb).trans e1
        have f2 := (U.out.cell (p := ⟨b, off + k * 6 + 2, none⟩) hb).trans e2
        have f3 := (U.out.cell (p := ⟨b, off + k * 6 + 3, none⟩) hb).trans e3
        have f4 := (U.out.cell (p := ⟨b, off + k * 6 + 4, none⟩) hb).trans e4
        have f5 := (U.out.cell (p := ⟨b, off + k * 6 + 5, none⟩) hb).trans e5
        have PL : Hid (∀ w', Below w.heap.size w w' → Calls Tryd.prog 5 #[.agg #[.int .i64 kd, .int .i64 A, .int .i64 B, .int .i64 C, .slice s len c, .string ⟨t.toArray⟩]] w' fun e w'' => e = .returned (.bool true) ∧ Below w'.heap.size w' w'') := fun w' hb' =>
          plays_at kd A B C s len c t w' hA hB hC (hls.later hb') htl (tab_below HT.out hb') (HE.out.below hb')
        have KP : Hid (len ≤ 4096 → ∀ w', Below w.heap.size w w' → Calls Tryd.prog 6 #[.agg #[.int .i64 kd, .int .i64 A, .int .i64 B, .int .i64 C, .slice s len c, .string ⟨t.toArray⟩], .int .i64 (k : Int)] w' fun e w'' => e = .returned (.bool true) ∧ Below w'.heap.size w' w'') := fun hle w' hb' => by
          rcases hls.2 with h | ⟨ws, e, hx, hr⟩
          · omega
          · exact kept_at ws _ kd A B C ⟨t.toArray⟩ k w' (hr.later hb') hx (by omega) hA.1 hA.2 (by omega) (by omega)
        have hln := hls.1
        clear hc e0 e1 e2 e3 e4 e5 H2 hA hB hC hls htl
        generalize (⟨t.toArray⟩ : ByteArray) = tt at *
        have BX := U.out.alloc U.out.size (.cells #[.int .i64 kd, .int .i64 A, .int .i64 B, .int .i64 C, .slice s len c, .string tt] 27)
        have LX : wr.heap.size < (wr.alloc (.cells #[.int .i64 kd, .int .i64 A, .int .i64 B, .int .i64 C, .slice s len c, .string tt] 27)).heap.size := by simp
        go_wp2_with fail
        refine (PL.out _ BX).mono ?_
        rintro e w1 ⟨rfl, V1⟩
        have U1 : Hid (Below w.heap.size w w1) := below_trans BX V1
        have z0 : w1.cell? ⟨wr.heap.size, 0, none⟩ = some (.int .i64 kd) := (V1.cell (p := ⟨wr.heap.size, 0, none⟩) LX).trans (by simp)
        have z1 : w1.cell? ⟨wr.heap.size, 1, none⟩ = some (.int .i64 A) := (V1.cell (p := ⟨wr.heap.size, 1, none⟩) LX).trans (by simp)
        have z2 : w1.cell? ⟨wr.heap.size, 2, none⟩ = some (.int .i64 B) := (V1.cell (p := ⟨wr.heap.size, 2, none⟩) LX).trans (by simp)
        have z3 : w1.cell? ⟨wr.heap.size, 3, none⟩ = some (.int .i64 C) := (V1.cell (p := ⟨wr.heap.size, 3, none⟩) LX).trans (by simp)
        have z4 : w1.cell? ⟨wr.heap.size, 4, none⟩ = some (.slice s len c) := (V1.cell (p := ⟨wr.heap.size, 4, none⟩) LX).trans (by simp)
        have z5 : w1.cell? ⟨wr.heap.size, 5, none⟩ = some (.string tt) := (V1.cell (p := ⟨wr.heap.size, 5, none⟩) LX).trans (by simp)
        clear V1 BX LX f0 f1 f2 f3 f4 f5 PL
        by_cases h5 : kd = 5
        · subst h5
          by_cases h6 : (len : Int) ≤ 4096
          · go_wp2_with fail
            refine (KP.out (by omega) _ U1.out).mono ?_
            rintro e w2 ⟨rfl, V2⟩
            have U2 : Hid (Below w.heap.size w w2) := below_trans U1.out V2
            clear V2
            go_wp2_with fail
            go_roundw
            case rel => exact ⟨k + 1, by omega, by go_num, U2⟩
            case measure => simp [RowKit.intOf]; omega
          · have d6 : decide ((len : Int) ≤ 4096) = false := decide_eq_false h6
            go_wp2_with fail
            go_roundw
            case rel => exact ⟨k + 1, by omega, by go_num, U1⟩
            case measure => simp [RowKit.intOf]; omega
        · have d5 : (kd == 5) = false := by rw [beq_eq_false_iff_ne]; exact h5
          clear h5
          go_wp2_with fail
          go_roundw
          case rel => exact ⟨k + 1, by omega, by go_num, U1⟩
          case measure => simp [RowKit.intOf]; omega
    · go_wp2_with fail
      go_ret
      exact ⟨rfl, U.out⟩
end Go.Proofs.YtfdahdloihgjeacDoor
