/-
  Ours: the statement's anew: a batch's payments written over in their own place.
-/
import Derived.Test.YtmgjkecejloghaaDoorLbUni
namespace Go.Proofs.YtmgjkecejloghaaDoor
open Go.RowKit LbM LbF CalM
namespace LbF
def nwI (i : Nat) : It := ⟨((i % 9 + 1 : Nat) : Int), ((i + 1 : Nat) : Int)⟩
def nwIts (L : Nat) : List It := (List.range L).map nwI
theorem nwIts_len (L : Nat) : (nwIts L).length = L := by simp [nwIts]
theorem nwIts_at {L i : Nat} {x : It} (h : (nwIts L)[i]? = some x) : i < L ∧ x = nwI i := by
  have hi : i < L := by have := (List.getElem?_eq_some_iff.1 h).1; rwa [nwIts_len] at this
  refine ⟨hi, ?_⟩
  unfold nwIts at h
  rw [List.getElem?_map, List.getElem?_range hi] at h
  simpa using h.symm
end LbF
theorem below_at {B : Nat} {w0 w1 w2 : World} (h : Below B w0 w1) (hg : Below w1.heap.size w1 w2) (hB : B ≤ w1.heap.size) : Below B w0 w2 := h.trans (hg.mono hB)
theorem below_st {B G : Nat} {w0 w1 w2 : World} (h : Below B w0 w1) (hs : B ≤ w1.heap.size) (hg : w1.grownBy w2 (some G)) (hB : B ≤ G) : Below B w0 w2 := h.grown hg hs (fun k e => by cases e; exact hB)
theorem part_next {cur vs : List Value} {k : Nat} (hl : k * 2 + 2 ≤ cur.length) {i : Nat} (hi : i < k) : ((cur.take (k * 2) ++ vs ++ cur.drop (k * 2 + vs.length)).drop (i * 2)).take 2 = (cur.drop (i * 2)).take 2 := by
  have h1 : (cur.take (k * 2)).length = k * 2 := by rw [List.length_take]; omega
  rw [List.append_assoc, List.drop_append_of_le_length (by omega), List.take_append_of_le_length (by rw [List.length_drop]; omega), List.drop_take, List.take_take]
  congr 1
  omega
theorem part_now {cur vs : List Value} {k : Nat} (hl : k * 2 + 2 ≤ cur.length) (hv : vs.length = 2) : ((cur.take (k * 2) ++ vs ++ cur.drop (k * 2 + vs.length)).drop (k * 2)).take 2 = vs := by
  have h1 : (cur.take (k * 2)).length = k * 2 := by rw [List.length_take]; omega
  rw [List.append_assoc, List.drop_append, h1, List.drop_of_length_le (by omega), Nat.sub_self, List.drop_zero, List.nil_append, List.take_append_of_le_length (by omega), List.take_of_length_le (by omega)]
/-- The first k payments are written over. -/
def Wr (L G k : Nat) (w : World) : Prop := ∃ cur : List Value, Blk G 43 cur w ∧ L * 2 ≤ cur.length ∧ ∀ i, i < k → (cur.drop (i * 2)).take 2 = itL (nwI i)
theorem Wr.rd {L G c : Nat} {w : World} {ao : Option Addr} (hao : 0 < L → ao = some ⟨G, 0, none⟩) (hc : L ≤ c) (hn : ao = none → c = 0) (h : 0 < L → Wr L G L w) : RdI w (.slice ao L c) (nwIts L) := by
  refine ⟨ao, c, by rw [nwIts_len], by rw [nwIts_len]; exact hc, hn, fun i x hi => ?_⟩
  obtain ⟨hiL, rfl⟩ := nwIts_at hi
  obtain ⟨cur, hb, hl, H⟩ := h (by omega)
  refine ⟨G, 0, hao (by omega), hb.lt, ?_⟩
  have := hb.range (i * 2) 2
  rw [H i hiL] at this
  rw [Nat.zero_add]
  exact this
theorem heldB {w5 w1 w2 : World} {B : Nat} {x y z : Value} (b : Below w1.heap.size w1 w2) (h : Below w5.heap.size w5 w1 ∧ w1.cell? ⟨B, 0, none⟩ = some x ∧ w1.cell? ⟨B, 1, none⟩ = some y ∧ w1.cell? ⟨B, 2, none⟩ = some z) : Below w5.heap.size w5 w2 ∧ w2.cell? ⟨B, 0, none⟩ = some x ∧ w2.cell? ⟨B, 1, none⟩ = some y ∧ w2.cell? ⟨B, 2, none⟩ = some z :=
  ⟨below_trans h.1 b, (b.cell (p := ⟨B, 0, none⟩) (World.block_lt_of_cell? _ _ h.2.1)).trans h.2.1, (b.cell (p := ⟨B, 1, none⟩) (World.block_lt_of_cell? _ _ h.2.2.1)).trans h.2.2.1, (b.cell (p := ⟨B, 2, none⟩) (World.block_lt_of_cell? _ _ h.2.2.2)).trans h.2.2.2⟩
set_option maxRecDepth 20000 in
set_option maxHeartbeats 8000000 in
theorem anew_at (b : Bt) (hl : b.its.length ≤ 10010) (v : Value) (w0 w : World) (base : Nat) (hw0 : LbW w0) (h0 : w0.heap.size ≤ base) (hb : Below base w0 w) (hbs : base ≤ w.heap.size) (h : RowI base w v b.its) :
    Calls Tryd.prog 15 #[btV b v] w fun e w' => e = .returned (.bool true) ∧ Below base w0 w' := by
  obtain ⟨day, num, its⟩ := b
  simp only at hl h
  obtain ⟨L, hL⟩ : ∃ L, its.length = L := ⟨_, rfl⟩
  obtain ⟨ao, cap, G, rfl, hao, hcap, hno, hGb, hWr⟩ : ∃ ao cap G, v = .slice ao L cap ∧ (0 < L → ao = some ⟨G, 0, none⟩) ∧ L ≤ cap ∧ (ao = none → cap = 0) ∧ (0 < L → base ≤ G ∧ G < w.heap.size) ∧ (0 < L → Wr L G 0 w) := by
    rcases h.2 with ⟨hv, hz⟩ | ⟨g, cap, cur, hv, hbg, hh, hn, hm, hs, ht⟩
    · exact ⟨none, 0, 0, by rw [hv, ← hL, hz], by omega, by omega, fun _ => rfl, by omega, by omega⟩
    · refine ⟨some ⟨g, 0, none⟩, cap, g, by rw [hv, hL], fun _ => rfl, by omega, (fun e => by cases e), fun _ => ⟨hbg, (Array.getElem?_eq_some_iff.1 hh).1⟩, fun _ => ⟨cur.toList, by simpa [Blk] using hh, by rw [Array.length_toList, hs]; omega, fun i hi => by omega⟩⟩
  rw [hL] at hl
  have FU : Hid (∀ w', Below base w0 w' → base ≤ w'.heap.size → RdI w' (.slice ao L cap) (nwIts L) → Calls Tryd.prog 8 #[.agg #[.int .i64 day, .int .i64 num, .slice ao L cap]] w' (FmtU ⟨day, num, nwIts L⟩ w')) := fun w' q1 q2 q3 => format_u ⟨day, num, nwIts L⟩ (by show (nwIts L).length ≤ _; rw [nwIts_len]; omega) _ w' (hw0.later (q1.mono h0)) q3
  have RFU : Hid (∀ w' v', RdI w' v' (nwIts L) → Calls Tryd.prog 9 #[.agg #[.int .i64 day, .int .i64 num, v']] w' (FmtU ⟨day, num, nwIts L⟩ w')) := fun w' v' q3 => rformat_u ⟨day, num, nwIts L⟩ (by show (nwIts L).length ≤ _; rw [nwIts_len]; omega) _ w' q3
  have OW : Hid (∀ w' v', RdI w' v' (nwIts L) → Calls Tryd.prog 7 #[.agg #[.int .i64 day, .int .i64 num, v']] w' (OwnAns ⟨day, num, nwIts L⟩ w')) := fun w' v' q3 => own_at ⟨day, num, nwIts L⟩ (by show (nwIts L).length ≤ _; rw [nwIts_len]; omega) _ w' q3
  have OU : Hid (∀ w' v', RdI w' v' (nwIts L) → Calls Tryd.prog 12 #[.agg #[.int .i64 day, .int .i64 num, v']] w' (OpsU ⟨day, num, nwIts L⟩ w')) := fun w' v' q3 => ops_u ⟨day, num, nwIts L⟩ (by show (nwIts L).length ≤ _; rw [nwIts_len]; omega) _ w' q3
  have ROU : Hid (∀ w' v', RdI w' v' (nwIts L) → Calls Tryd.prog 14 #[.agg #[.int .i64 day, .int .i64 num, v']] w' (OpsU ⟨day, num, nwIts L⟩ w')) := fun w' v' q3 => rops_u ⟨day, num, nwIts L⟩ (by show (nwIts L).length ≤ _; rw [nwIts_len]; omega) _ w' q3
  have SO : Hid (∀ w' v1 v2, RdK 7 w' v1 (itsOf ⟨day, num, nwIts L⟩).length (opsC num 0 (itsOf ⟨day, num, nwIts L⟩)) → RdK 7 w' v2 (itsOf ⟨day, num, nwIts L⟩).length (opsC num 0 (itsOf ⟨day, num, nwIts L⟩)) → Calls Tryd.prog 13 #[v1, v2] w' fun e w2 => e = .returned (.bool true) ∧ Below w'.heap.size w' w2) := fun w' v1 v2 q1 q2 => sameOps_yes num _ v1 v2 w' _ rfl (by have := itsOf_len ⟨day, num, nwIts L⟩; omega) q1 q2
  have SB : Hid (∀ w' v1 v2, RdB w' v1 (fileOf ⟨day, num, nwIts L⟩) → RdB w' v2 (fileOf ⟨day, num, nwIts L⟩) → Calls Tryd.prog 10 #[v1, v2] w' fun e w2 => e = .returned (.bool true) ∧ Below w'.heap.size w' w2) := fun w' v1 v2 q1 q2 => sameBytes_yes _ v1 v2 w' _ rfl (by have := fileOf_len ⟨day, num, nwIts L⟩; omega) q1 q2
  have GO : Hid ((0 < L → ao = some ⟨G, 0, none⟩) ∧ L ≤ cap ∧ (ao = none → cap = 0) ∧ (0 < L → base ≤ G ∧ G < w.heap.size)) := ⟨hao, hcap, hno, hGb⟩
  have bal : Below w.heap.size w (w.alloc (.cells #[.int .i64 day, .int .i64 num, .slice ao L cap] 24)) := below_alloc w _
  have W1 : Hid (Blk w.heap.size 24 [.int .i64 day, .int .i64 num, .slice ao L cap] (w.alloc (.cells #[.int .i64 day, .int .i64 num, .slice ao L cap] 24)) ∧ Below base w0 (w.alloc (.cells #[.int .i64 day, .int .i64 num, .slice ao L cap] 24)) ∧ base ≤ w.heap.size ∧ (0 < L → Wr L G 0 (w.alloc (.cells #[.int .i64 day, .int .i64 num, .slice ao L cap] 24)))) :=
    ⟨Blk.new 24 [.int .i64 day, .int .i64 num, .slice ao L cap] w, below_at hb bal hbs, hbs, fun q => by obtain ⟨cur, k1, k2, k3⟩ := hWr q; exact ⟨cur, k1.below bal, k2, k3⟩⟩
  have GB : Hid (0 < L → G ≠ w.heap.size) := fun q => by have := (hGb q).2; omega
  obtain ⟨B, hB⟩ : ∃ B, w.heap.size = B := ⟨_, rfl⟩
  have HBe : Hid (w.heap.size = B) := hB
  simp only [hB] at W1 GB
  have e3 : ∀ q : Bool, (q == q) = true := fun q => by simp
  clear h hWr hao hno hGb hb hbs bal hw0 hL hB
  unfold FmtU at FU RFU
  unfold OpsU at OU ROU
  generalize fileOf ⟨day, num, nwIts L⟩ = FB at *
  generalize itsOf ⟨day, num, nwIts L⟩ = IT at *
  generalize decide (Bt.Has ⟨day, num, nwIts L⟩) = q at *
  go_enter Tryd.func15, Tryd.ntmps15
  go_upto_region 1 with fail
  rw [HBe.out]
  generalize w.alloc (.cells #[.int .i64 day, .int .i64 num, .slice ao L cap] 24) = w1 at *
  go_wp2_with fail
  go_loopw [3] (fun vk wr => ∃ k : Nat, vk = .int .i64 (k : Int) ∧ k ≤ L ∧ Hid (Blk B 24 [.int .i64 day, .int .i64 num, .slice ao L cap] wr ∧ Below base w0 wr ∧ base ≤ B ∧ (0 < L → Wr L G k wr))) (fun vk _ => L - (intOf vk).toNat)
  case atStart => exact ⟨0, rfl, by omega, W1.out⟩
  case round =>
    obtain ⟨k, rfl, hk, HR⟩ := hrel
    clear W1
    have c2 := HR.out.1.cell 2 _ rfl
    by_cases hlt : (k : Int) < (L : Int)
    · obtain rfl := GO.out.1 (by omega)
      obtain ⟨cur, hb, hcl, HW⟩ := HR.out.2.2.2 (by omega)
      have BK : Hid (Blk G 43 cur wr) := hb
      have ft : k * 2 + ([.int .i64 (((k % 9 : Nat) : Int) + 1), .int .i64 ((k : Int) + 1)] : List Value).length ≤ cur.length := by show k * 2 + 2 ≤ _; omega
      have FT : Hid (k * 2 + ([.int .i64 (((k % 9 : Nat) : Int) + 1), .int .i64 ((k : Int) + 1)] : List Value).length ≤ cur.length) := ft
      have md : ((k : Int)).tmod 9 = ((k % 9 : Nat) : Int) := by rw [Int.tmod_eq_emod_of_nonneg (by omega)]; rfl
      have m9 : k % 9 < 9 := Nat.mod_lt _ (by decide)
      have HC : Hid (L * 2 ≤ cur.length ∧ ∀ i, i < k → (cur.drop (i * 2)).take 2 = itL (nwI i)) := ⟨hcl, HW⟩
      have NK : Hid (([.int .i64 (((k % 9 : Nat) : Int) + 1), .int .i64 ((k : Int) + 1)] : List Value) = itL (nwI k)) := rfl
      have hGlt := hb.lt
      clear hb hcl HW ft
      generalize k % 9 = k9 at *
      go_wp2_with (refine step_store rfl 43 _ _ rfl G (k * 2) 43 cur [.int .i64 ((k9 : Int) + 1), .int .i64 ((k : Int) + 1)] rfl rfl BK.out FT.out (sizeIt ⟨0, 0⟩) (by intro v hv; simp at hv; rcases hv with rfl | rfl <;> rfl) ?_; intro w3 nb3 g3)
      have R3 : Hid (Blk B 24 [.int .i64 day, .int .i64 num, .slice (some ⟨G, 0, none⟩) L cap] w3 ∧ Below base w0 w3 ∧ base ≤ B ∧ (0 < L → Wr L G (k + 1) w3)) :=
        ⟨HR.out.1.grown g3 (fun e => by injection e with e; exact GB.out (by omega) e), below_st HR.out.2.1 (Nat.le_of_lt (Nat.lt_of_le_of_lt HR.out.2.2.1 HR.out.1.lt)) g3 (GO.out.2.2.2 (by omega)).1, HR.out.2.2.1, fun _ => ⟨_, nb3, by rw [List.length_append, List.length_append, List.length_take, List.length_drop]; have := HC.out.1; show _ ≤ min _ _ + 2 + (_ - (k * 2 + 2)); omega, fun i hi => by
          by_cases e : i = k
          · subst e
            rw [part_now (by have := HC.out.1; omega) rfl, NK.out]
          · rw [part_next (by have := HC.out.1; omega) (by omega)]
            exact HC.out.2 i (by omega)⟩⟩
      clear nb3 g3 HR BK FT HC NK c2 hGlt
      go_wp2_with fail
      go_roundw
      case rel => exact ⟨k + 1, by go_num, by omega, R3⟩
      case measure => simp [intOf]; omega
    · obtain rfl : k = L := by omega
      have RD : Hid (∀ w', Below wr.heap.size wr w' → RdI w' (.slice ao k cap) (nwIts k)) := fun w' qq => (Wr.rd GO.out.1 GO.out.2.1 GO.out.2.2.1 HR.out.2.2.2).later qq
      have S1 : Hid (Blk B 24 [.int .i64 day, .int .i64 num, .slice ao k cap] wr ∧ Below base w0 wr ∧ base ≤ wr.heap.size) := ⟨HR.out.1, HR.out.2.1, Nat.le_of_lt (Nat.lt_of_le_of_lt HR.out.2.2.1 HR.out.1.lt)⟩
      clear HR GO GB
      go_wp2_with (refine step_load rfl 24 _ rfl B 0 rfl [.int .i64 day, .int .i64 num, .slice ao k cap] _ (Blk.all S1.out.1) Tryd.underlying24 rfl (sizeBt ⟨0, 0, []⟩ undef) ?_)
      refine (FU.out wr S1.out.2.1 S1.out.2.2 (RD.out _ (Below.refl _ _))).mono ?_
      rintro e w4 ⟨a4, n4, c4, rfl, r4, -, b4⟩
      have S4 : Hid (Blk B 24 [.int .i64 day, .int .i64 num, .slice ao k cap] w4 ∧ Below wr.heap.size wr w4 ∧ RdB w4 (.slice a4 n4 c4) FB) := ⟨S1.out.1.below b4, b4, RowV.rd r4⟩
      clear r4 b4
      go_wp2_with (refine step_load rfl 24 _ rfl B 0 rfl [.int .i64 day, .int .i64 num, .slice ao k cap] _ (Blk.all S4.out.1) Tryd.underlying24 rfl (sizeBt ⟨0, 0, []⟩ undef) ?_)
      refine (OW.out w4 _ (RD.out _ S4.out.2.1)).mono ?_
      rintro e w5 ⟨a5, n5, c5, rfl, r5, b5⟩
      have S5 : Hid (Blk B 24 [.int .i64 day, .int .i64 num, .slice ao k cap] w5 ∧ Below wr.heap.size wr w5 ∧ RdB w5 (.slice a4 n4 c4) FB ∧ RdI w5 (.slice a5 n5 c5) (nwIts k)) := ⟨S4.out.1.below b5, below_trans S4.out.2.1 b5, Rd.later S4.out.2.2 b5, r5.rd⟩
      clear r5 b5 S4
      go_wp2_with fail
      refine (RFU.out w5 _ S5.out.2.2.2).mono ?_
      rintro e w6 ⟨a6, n6, c6, rfl, r6, -, b6⟩
      have S6 : Hid (Blk B 24 [.int .i64 day, .int .i64 num, .slice ao k cap] w6 ∧ Below wr.heap.size wr w6 ∧ RdB w6 (.slice a4 n4 c4) FB ∧ RdB w6 (.slice a6 n6 c6) FB) := ⟨S5.out.1.below b6, below_trans S5.out.2.1 b6, Rd.later S5.out.2.2.1 b6, RowV.rd r6⟩
      clear r6 b6 S5
      have HB : Hid (∀ w', Below w6.heap.size w6 w' → RdI w' (.slice ao k cap) (nwIts k) ∧ RdB w' (.slice a4 n4 c4) FB ∧ RdB w' (.slice a6 n6 c6) FB) := fun w' qq => ⟨RD.out _ (below_trans S6.out.2.1 qq), Rd.later S6.out.2.2.1 qq, Rd.later S6.out.2.2.2 qq⟩
      have C6 : Hid (Below w6.heap.size w6 w6 ∧ w6.cell? ⟨B, 0, none⟩ = some (.int .i64 day) ∧ w6.cell? ⟨B, 1, none⟩ = some (.int .i64 num) ∧ w6.cell? ⟨B, 2, none⟩ = some (.slice ao k cap)) := ⟨Below.refl _ _, S6.out.1.cell 0 _ rfl, S6.out.1.cell 1 _ rfl, S6.out.1.cell 2 _ rfl⟩
      have eq1 := e3 q
      go_wp2_with fail
      go_region_held3 (fun w' => Below w6.heap.size w6 w' ∧ w'.cell? ⟨B, 0, none⟩ = some (.int .i64 day) ∧ w'.cell? ⟨B, 1, none⟩ = some (.int .i64 num) ∧ w'.cell? ⟨B, 2, none⟩ = some (.slice ao k cap)) (first | assumption | exact ⟨Below.drew C6.out.1, C6.out.2⟩ | exact heldB hU (by assumption) | exact heldB hUa (by assumption) | exact heldB hUb (by assumption) | exact heldB hUc (by assumption) | exact heldB hUd (by assumption)) (first
        | (go_at_call 10; refine (SB.out _ _ _ (HB.out _ (And.left (by assumption))).2.1 (HB.out _ (And.left (by assumption))).2.2).mono ?_; rintro e wa ⟨rfl, hUa⟩)
        | (go_at_call 12; refine (OU.out _ _ (HB.out _ (And.left (by assumption))).1).mono ?_; rintro e wb ⟨ab, nb, cb, rfl, rfl, rb, hUb⟩)
        | (go_at_call 7; refine (OW.out _ _ (HB.out _ (And.left (by assumption))).1).mono ?_; rintro e wc ⟨ac, nc, cc, rfl, rc, hUc⟩)
        | (go_at_call 14; refine (ROU.out _ _ rc.rd).mono ?_; rintro e wd ⟨ad, nd, cd, rfl, rfl, rd, hUd⟩)
        | (go_at_call 13; refine (SO.out _ _ _ (RdK.later (RdK.later (RdK.of_own rb) hUc) hUd) (RdK.of_own rd)).mono ?_; rintro e we ⟨rfl, hU⟩))
      have FIN : Hid (Below base w0 we) := below_at (below_at S1.out.2.1 S6.out.2.1 S1.out.2.2) (And.left (by assumption)) (Nat.le_trans S1.out.2.2 S6.out.2.1.size)
      go_wp2_with fail
      go_ret
      exact ⟨rfl, FIN.out⟩
end Go.Proofs.YtmgjkecejloghaaDoor
