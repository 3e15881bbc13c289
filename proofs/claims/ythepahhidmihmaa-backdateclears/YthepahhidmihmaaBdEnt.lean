/-
  Ours: backdate.Entries.
-/
import Derived.Test.YthepahhidmihmaaBdGo
import Derived.Test.YthepahhidmihmaaBdEq
namespace Go.Proofs.Ythepahhidmihmaa
open Go.RowKit LedM BdM

/-- How far a row of moves still may grow. -/
def roomE : Value → Nat
  | .slice _ n _ => 12 - n
  | _ => 0
theorem RowE.val {base : Nat} {w : World} {v : Value} {fs : List Ent} (h : RowE base w v fs) : ∃ a c, v = .slice a fs.length c := by
  obtain ⟨a, c, e, _⟩ := h.rd
  exact ⟨a, c, e⟩
theorem _root_.Go.Proofs.Ythepahhidmihmaa.BdM.Bal.ok {l : List Int} (h : Bal l) : BkOk l := ⟨h.len, fun k => by have := h.bnd k; unfold i64; omega⟩
theorem z12_ok : BkOk z12 := ⟨rfl, fun k => by rw [z12_at]; unfold i64; omega⟩

set_option maxHeartbeats 2000000 in
theorem entries_at (l : List Int) (w : World) (hl : BkOk l) : Calls Try.prog 5 #[.agg (bkL l).toArray] w fun e w' => ∃ v, e = .returned (.tuple #[v, .bool (okB l)]) ∧ RowE w.heap.size w' v (mv l) ∧ Below w.heap.size w w' := by
  have SM : Hid (∀ w', Blk w.heap.size 25 (bkL l) w' → Calls Try.prog 8 #[.slice (some ⟨w.heap.size, 0, none⟩) 12 12] w' fun e w2 => e = .returned (.tuple #[.int .i64 (smV (total l)), .bool (smOk (total l))]) ∧ w2 = w') := fun w' hb => by
    have := sum_any l w.heap.size 0 12 w' hl.2 (by rw [hl.1]; decide) (fun i hi => by rw [Nat.zero_add]; exact hb.cell i _ (bkL_at hi))
    rw [hl.1] at this; exact this
  have CN : Hid (∀ w', Blk w.heap.size 25 (bkL l) w' → Calls Try.prog 9 #[.slice (some ⟨w.heap.size, 0, none⟩) 12 12, .int .i64 (-9223372036854775808)] w' fun e w2 => e = .returned (.bool (l.contains (-9223372036854775808))) ∧ w2 = w') := fun w' hb =>
    scont_at l _ w.heap.size w' hl.1 (fun i hi => hb.cell i _ (bkL_at (by rw [hl.1]; exact hi)))
  have NB : Hid (Blk w.heap.size 25 (bkL l) (w.alloc (.cells (bkL l).toArray 25))) := Blk.new _ _ _
  have BB : Hid (Below w.heap.size w (w.alloc (.cells (bkL l).toArray 25))) := below_alloc w _
  have SZ : Hid ((w.alloc (.cells (bkL l).toArray 25)).heap.size = w.heap.size + 1) := by show _ = _; simp
  have OKF : Hid (∀ b, okB l = b → ∃ c q, smOk (total l) = c ∧ l.contains (-9223372036854775808) = q ∧ (b = false → c = false ∨ (c = true ∧ (smV (total l) != 0) = true) ∨ (c = true ∧ (smV (total l) != 0) = false ∧ q = true)) ∧ (b = true → c = true ∧ (smV (total l) != 0) = false ∧ q = false)) := fun b hb => by
    refine ⟨_, _, rfl, rfl, ?_, ?_⟩
    · intro e; subst e
      unfold okB at hb
      cases hs : smOk (total l)
      · exact .inl rfl
      · refine .inr ?_
        by_cases h0 : total l = 0
        · rw [decide_eq_true h0] at hb
          refine .inr ⟨rfl, by rw [h0]; decide, by simpa using hb⟩
        · exact .inl ⟨rfl, by unfold smV; rw [hs]; simpa using h0⟩
    · intro e; subst e
      unfold okB at hb
      simp only [Bool.and_eq_true, decide_eq_true_eq, Bool.not_eq_true'] at hb
      rw [hb.1]
      exact ⟨by decide, by decide, hb.2⟩
  have MV0 : Hid (okB l = false → mv l = []) := fun h => by unfold mv; rw [h]; rfl
  have MV1 : Hid (okB l = true → mv l = es 12 l ∧ Bal l) := fun h => ⟨by unfold mv; rw [h]; rfl, bal_of hl h⟩
  obtain ⟨b, hb⟩ : ∃ b, okB l = b := ⟨_, rfl⟩
  obtain ⟨c, q, hc, hq, F0, F1⟩ := OKF.out b hb
  rw [hc] at SM
  rw [hq] at CN
  rw [hb] at MV0 MV1 ⊢
  obtain ⟨M, HM⟩ : ∃ M, Hid (mv l = M) := ⟨_, rfl⟩
  rw [HM.out] at MV0 MV1 ⊢
  generalize smV (total l) = sv at *
  have F0' : Hid (b = false → c = false ∨ (c = true ∧ (sv != 0) = true) ∨ (c = true ∧ (sv != 0) = false ∧ q = true)) := F0
  have F1' : Hid (b = true → c = true ∧ (sv != 0) = false ∧ q = false) := F1
  clear F0 F1 OKF hc hq hb hl
  go_enter Try.func5, Try.ntmps5
  go_wp2_with fail
  generalize w.alloc (.cells (bkL l).toArray 25) = w2 at *
  refine (SM.out w2 NB.out).mono ?_
  rintro e w3 ⟨rfl, hw⟩; rw [hw]; clear hw w3
  cases b
  · obtain rfl := MV0.out rfl
    clear MV0 MV1 F1'
    rcases F0'.out rfl with rfl | ⟨rfl, hs⟩ | ⟨rfl, hs, rfl⟩
    · go_wp2_with fail
      go_ret2
      exact ⟨_, rfl, RowE.nil _ _, BB.out⟩
    · go_wp2_with fail
      go_ret2
      exact ⟨_, rfl, RowE.nil _ _, BB.out⟩
    · go_wp2_with fail
      refine (CN.out w2 NB.out).mono ?_
      rintro e w3 ⟨rfl, hw⟩; rw [hw]; clear hw w3
      go_wp2_with fail
      go_ret2
      exact ⟨_, rfl, RowE.nil _ _, BB.out⟩
  · obtain ⟨e0, bal⟩ := MV1.out rfl
    have BL : Hid (Bal l) := bal
    have E0 : Hid (M = es 12 l) := e0
    clear MV0 MV1 F0' bal e0
    obtain ⟨rfl, hs, rfl⟩ := F1'.out rfl
    go_wp2_with fail
    refine (CN.out w2 NB.out).mono ?_
    rintro e w3 ⟨rfl, hw⟩; rw [hw]; clear hw w3
    clear CN SM F1' hs
    have NB2 : Hid (Blk w.heap.size 25 (bkL l) (w2.alloc (.cells #[Value.int .i64 0, Value.int .i64 0, Value.int .i64 0, Value.int .i64 0, Value.int .i64 0, Value.int .i64 0, Value.int .i64 0, Value.int .i64 0, Value.int .i64 0, Value.int .i64 0, Value.int .i64 0, Value.int .i64 0] 25))) := NB.out.old _
    have NZ2 : Hid (Blk w2.heap.size 25 (bkL z12) (w2.alloc (.cells #[Value.int .i64 0, Value.int .i64 0, Value.int .i64 0, Value.int .i64 0, Value.int .i64 0, Value.int .i64 0, Value.int .i64 0, Value.int .i64 0, Value.int .i64 0, Value.int .i64 0, Value.int .i64 0, Value.int .i64 0] 25))) := Blk.new 25 (bkL z12) w2
    have BB2 : Hid (Below w.heap.size w (w2.alloc (.cells #[Value.int .i64 0, Value.int .i64 0, Value.int .i64 0, Value.int .i64 0, Value.int .i64 0, Value.int .i64 0, Value.int .i64 0, Value.int .i64 0, Value.int .i64 0, Value.int .i64 0, Value.int .i64 0, Value.int .i64 0] 25))) := BB.out.alloc BB.out.size _
    have SZ2 : Hid ((w2.alloc (.cells #[Value.int .i64 0, Value.int .i64 0, Value.int .i64 0, Value.int .i64 0, Value.int .i64 0, Value.int .i64 0, Value.int .i64 0, Value.int .i64 0, Value.int .i64 0, Value.int .i64 0, Value.int .i64 0, Value.int .i64 0] 25)).heap.size = w.heap.size + 2) := by show _ = _; simp; exact SZ.out
    go_upto_region 6 with fail
    generalize (w2.alloc (.cells #[Value.int .i64 0, Value.int .i64 0, Value.int .i64 0, Value.int .i64 0, Value.int .i64 0, Value.int .i64 0, Value.int .i64 0, Value.int .i64 0, Value.int .i64 0, Value.int .i64 0, Value.int .i64 0, Value.int .i64 0] 25)) = w4 at *
    obtain ⟨g1, hg1⟩ : ∃ g, w2.heap.size = g := ⟨_, rfl⟩
    rw [hg1] at NZ2 SZ ⊢
    obtain ⟨g0, hg0⟩ : ∃ g, w.heap.size = g := ⟨_, rfl⟩
    have HG0 : Hid (w.heap.size = g0) := hg0
    rw [hg0] at NB2 SZ SZ2 ⊢
    have HG1 : Hid (g1 = g0 + 1) := SZ.out
    clear hg1 hg0 BB NB SZ
    go_wp2_with fail
    go_loopw [6, 8, 9, 10] (fun v _ _ _ wr => ∃ k : Nat, k ≤ 12 ∧ Hid (∀ j, j < k → it j l ≠ z12) ∧ (es k l).length = k ∧ Blk g0 25 (bkL (it k l)) wr ∧ Blk g1 25 (bkL z12) wr ∧ RowE (g0 + 2) wr v (es k l) ∧ Below w.heap.size w wr ∧ g0 + 2 ≤ wr.heap.size) (fun v _ _ _ _ => roomE v)
    case atStart => exact ⟨0, by omega, (fun j hj => by omega), rfl, NB2.out, NZ2.out, RowE.nil _ _, BB2.out, by rw [SZ2.out]; exact Nat.le_refl _⟩
    case round =>
      clear NB2 NZ2 BB2 SZ2
      obtain ⟨k, hk, NZ, hlen, b0, b1, re, bb, hsz⟩ := hrel
      have B0 : Hid (Blk g0 25 (bkL (it k l)) wr) := b0
      have B1 : Hid (Blk g1 25 (bkL z12) wr) := b1
      have RE : Hid (RowE (g0 + 2) wr u6 (es k l)) := re
      have BB : Hid (Below w.heap.size w wr) := bb
      have HL : Hid ((es k l).length = k) := hlen
      clear b0 b1 re bb hlen
      have CI : Hid ((Try.prog.info? 23).map (·.size) = some (bkL (it k l)).length) := by show _ = _; rw [bkL_len, (BL.out.keeps k).len]; exact cellsNet
      have CZ : Hid ((Try.prog.info? 23).map (·.size) = some (bkL z12).length) := by show _ = _; rw [bkL_len]; exact cellsNet
      have EQ : Hid (EqT 23 (bkL (it k l)) (bkL z12) (decide (it k l = z12))) := eqt_net (BL.out.keeps k).ok z12_ok
      by_cases hz : it k l = z12
      · have EQ1 : Hid (EqT 23 (bkL (it k l)) (bkL z12) true) := by have := EQ.out; rwa [decide_eq_true hz] at this
        have EA : Hid (es k l = es 12 l) := es_all hz hk
        clear hz EQ
        go_wp2_with (first
          | (refine step_load rfl 23 _ rfl g0 0 rfl (bkL (it k l)) _ B0.out.all Try.underlying23 rfl CI.out ?_)
          | (refine step_load rfl 23 _ rfl g1 0 rfl (bkL z12) _ B1.out.all Try.underlying23 rfl CZ.out ?_)
          | (refine step_neqT rfl 23 _ _ _ rfl (bkL (it k l)) (bkL z12) true rfl rfl (by kernel_rfl) EQ1.out ?_))
        go_ret2
        exact ⟨_, rfl, by rw [E0.out, ← EA.out]; exact RE.out.mono (by rw [HG0.out]; omega), BB.out⟩
      · have hz0 : Hid (it k l ≠ z12) := hz
        have EQ1 : Hid (EqT 23 (bkL (it k l)) (bkL z12) false) := by have := EQ.out; rwa [decide_eq_false hz] at this
        have bal := BL.out.keeps k
        have k10 : k ≤ 10 := BL.out.short hz
        have GO : Hid (it (k + 1) l = nx (it k l) ∧ es (k + 1) l = es k l ++ [ent (it k l)]) := it_go hz
        have NZ1 : Hid (∀ j, j < k + 1 → it j l ≠ z12) := fun j hj => by
          by_cases e : j = k
          · subst e; exact hz
          · exact NZ.out j (by omega)
        obtain ⟨uu, dd⟩ := bal.ne hz
        obtain ⟨xp, yp, une, a1⟩ := bal.two hz
        have al := am_le (l := it k l)
        have bu := bal.bnd (fUp (it k l))
        have bd := bal.bnd (fDn (it k l))
        have IU : Hid (∀ w', Blk g0 25 (bkL (it k l)) w' → Calls Try.prog 10 #[.slice (some ⟨g0, 0, none⟩) 12 12, .func (.func 11) #[] #[]] w' fun e w2 => e = .returned (.int .i64 (fUp (it k l) : Int)) ∧ w2 = w') := fun w' hb =>
          ifunc_at _ (fun x => decide (0 < x)) (it k l) (fUp (it k l)) g0 w' (fun x w => up_at x w) (fun args w => by kernel_rfl) uu (decide_eq_true xp) (fun j hj => decide_eq_false (by have := fUp_lt _ j hj; omega)) (fun i hi => hb.cell i _ (bkL_at (by rw [bal.len]; exact hi)))
        have ID : Hid (∀ w', Blk g0 25 (bkL (it k l)) w' → Calls Try.prog 10 #[.slice (some ⟨g0, 0, none⟩) 12 12, .func (.func 12) #[] #[]] w' fun e w2 => e = .returned (.int .i64 (fDn (it k l) : Int)) ∧ w2 = w') := fun w' hb =>
          ifunc_at _ (fun x => decide (x < 0)) (it k l) (fDn (it k l)) g0 w' (fun x w => dn_at x w) (fun args w => by kernel_rfl) dd (decide_eq_true yp) (fun j hj => decide_eq_false (by have := fDn_lt _ j hj; omega)) (fun i hi => hb.cell i _ (bkL_at (by rw [bal.len]; exact hi)))
        clear hz EQ NZ
        have BO : Hid ((it k l).length = 12 ∧ (∀ j, (nx (it k l)).getD j 0 = if j = fDn (it k l) then (it k l).getD (fDn (it k l)) 0 + am (it k l) else if j = fUp (it k l) then (it k l).getD (fUp (it k l)) 0 - am (it k l) else (it k l).getD j 0)) := ⟨bal.len, fun j => bal.nxD hz0.out j⟩
        generalize es k l = fs at *
        have BAL : Hid (Bal (it k l)) := bal
        clear bal
        generalize it k l = m at *
        go_wp2_with (first
          | (refine step_load rfl 23 _ rfl g0 0 rfl (bkL m) _ B0.out.all Try.underlying23 rfl CI.out ?_)
          | (refine step_load rfl 23 _ rfl g1 0 rfl (bkL z12) _ B1.out.all Try.underlying23 rfl CZ.out ?_)
          | (refine step_neqT rfl 23 _ _ _ rfl (bkL m) (bkL z12) false rfl rfl (by kernel_rfl) EQ1.out ?_))
        refine (IU.out wr B0.out).mono ?_
        rintro e w3 ⟨rfl, hw⟩; rw [hw]; clear hw w3
        go_wp2_with fail
        refine (ID.out wr B0.out).mono ?_
        rintro e w3 ⟨rfl, hw⟩; rw [hw]; clear hw w3
        obtain ⟨al0, al1, al2⟩ := al
        have HA : Hid ((if -m.getD (fDn m) 0 < m.getD (fUp m) 0 then -m.getD (fDn m) 0 else m.getD (fUp m) 0) = am m) := rfl
        have NE : Hid (fUp m ≠ fDn m) := une
        have c0 := B0.out.cell (fUp m) _ (bkL_at (by rw [BO.out.1]; exact uu))
        have c1 := B0.out.cell (fDn m) _ (bkL_at (by rw [BO.out.1]; exact dd))
        have NXD := BO.out.2
        have HN1 : Hid (n1 m = m.set (fUp m) (m.getD (fUp m) 0 - am m)) := rfl
        have HNX : Hid (nx m = (m.set (fUp m) (m.getD (fUp m) 0 - am m)).set (fDn m) (m.getD (fDn m) 0 + am m)) := by
          show nx m = _
          have := BAL.out.n1D hz0.out (fDn m)
          rw [if_neg (fun e => une e.symm)] at this
          unfold nx
          rw [this]; rfl
        have HE : Hid (ent m = ⟨fUp m, fDn m, am m⟩) := rfl
        clear IU ID une al2 NXD
        generalize fUp m = u at *
        generalize fDn m = d at *
        generalize am m = n at *
        obtain ⟨x, hx⟩ : ∃ x, m.getD u 0 = x := ⟨_, rfl⟩
        obtain ⟨y, hy⟩ : ∃ y, m.getD d 0 = y := ⟨_, rfl⟩
        have HX : Hid (m.getD u 0 = x) := hx
        have HY : Hid (m.getD d 0 = y) := hy
        rw [hx] at xp al0 bu HA HN1 HNX c0
        rw [hy] at yp al1 bd HA HNX c1
        clear hx hy
        have u0 : (u : Int) < 12 := by omega
        have d0 : (d : Int) < 12 := by omega
        have ny : IntKind.i64.wrap (-y) = -y := by rw [IntKind.wrap_i64]; omega
        have nxu : IntKind.i64.wrap (x - n) = x - n := by rw [IntKind.wrap_i64]; omega
        have nxd : IntKind.i64.wrap (y + n) = y + n := by rw [IntKind.wrap_i64]; omega
        go_wp2_with fail
        go_region
        rw [HA.out]
        have W5 : Hid (Below wr.heap.size wr (wr.alloc (.cells #[Value.int .i64 (u : Int), Value.int .i64 (d : Int), Value.int .i64 n] 30)).drew ∧ wr.heap.size ≤ (wr.alloc (.cells #[Value.int .i64 (u : Int), Value.int .i64 (d : Int), Value.int .i64 n] 30)).drew.heap.size) := ⟨below_drewN (below_alloc wr _) 1, by show wr.heap.size ≤ (wr.alloc _).heap.size; simp⟩
        have RO : Hid (RdE (wr.alloc (.cells #[Value.int .i64 (u : Int), Value.int .i64 (d : Int), Value.int .i64 n] 30)).drew (.slice (some ⟨wr.heap.size, 0, none⟩) 1 1) [⟨u, d, n⟩]) := RdE.one wr ⟨u, d, n⟩
        clear CI CZ EQ1 HA
        go_upto_region 11 with (at_builtin; refine wpList_catE rfl (.tmp 49) (.tmp 54) rfl (g0 + 2) u6 _ fs [⟨u, d, n⟩] rfl (RE.out.later W5.out.1) (Nat.le_trans hsz W5.out.2) rfl RO.out (by rw [HL.out]; simp; omega) ?_; intro v5 w5 re5 gr5)
        have OG : Hid (∀ g, u6.ownBlock = some g → g0 + 2 ≤ g) := fun g hg => RE.out.ge hg
        have B0w : Hid (Blk g0 25 (bkL m) w5) := (B0.out.below W5.out.1).grown gr5 (fun e => by have := OG.out _ e; omega)
        have B1w : Hid (Blk g1 25 (bkL z12) w5) := (B1.out.below W5.out.1).grown gr5 (fun e => by have := OG.out _ e; have := HG1.out; omega)
        have BBw : Hid (Below w.heap.size w w5 ∧ g0 + 2 ≤ w5.heap.size) := ⟨(below_trans BB.out W5.out.1).grown gr5 (by have := HG0.out; have := W5.out.2; omega) (fun g hg => by have := OG.out _ hg; have := HG0.out; omega), Nat.le_trans (Nat.le_trans hsz W5.out.2) gr5.size⟩
        have REw : Hid (RowE (g0 + 2) w5 v5 (fs ++ [⟨u, d, n⟩])) := re5
        have RM : Hid (roomE v5 < roomE u6) := by
          obtain ⟨a6, c6, e6⟩ := RE.out.val
          obtain ⟨a5, c5, e5⟩ := REw.out.val
          show roomE v5 < roomE u6
          rw [e5, e6]
          simp only [roomE, List.length_append, List.length_cons, List.length_nil, HL.out]
          omega
        clear W5 RO OG RE B0 B1 BB gr5 re5 hsz c0 c1
        obtain ⟨nb, HNB⟩ : ∃ nb, Hid (nb = (m.set u (x - n)).set d (y + n)) := ⟨_, rfl⟩
        have B0x : Hid (Blk g0 25 ((bkL m).set u (.int .i64 (x - n))) (w5.setCell ⟨g0, u, none⟩ (.int .i64 (x - n)))) := B0w.out.set _
        have B0y : Hid (Blk g0 25 (bkL nb) ((w5.setCell ⟨g0, u, none⟩ (.int .i64 (x - n))).setCell ⟨g0, d, none⟩ (.int .i64 (y + n)))) := by
          have := B0x.out.set (i := d) (.int .i64 (y + n))
          show Blk _ _ _ _
          rw [HNB.out]
          simpa [bkL, List.map_set] using this
        have GR : Hid (w5.grownBy ((w5.setCell ⟨g0, u, none⟩ (.int .i64 (x - n))).setCell ⟨g0, d, none⟩ (.int .i64 (y + n))) (some g0)) := by
          have h1 := setCell_grown w5 g0 u (.int .i64 (x - n))
          have h2 := setCell_grown (w5.setCell ⟨g0, u, none⟩ (.int .i64 (x - n))) g0 d (.int .i64 (y + n))
          exact ⟨h2.os.trans h1.os, h2.tape.trans h1.tape, h2.output.trans h1.output, Nat.le_trans h1.size h2.size, fun k hk hn => (h2.block k (Nat.lt_of_lt_of_le hk h1.size) hn).trans (h1.block k hk hn)⟩
        have c0 := B0w.out.cell u _ (bkL_at (by rw [BO.out.1]; exact uu))
        rw [show m.getD u 0 = x from HX.out] at c0
        have f0 := B0w.out.fz u
        have l0 := B0w.out.lt
        have c1 := B0x.out.cell d (.int .i64 y) (by rw [List.getElem?_set_ne NE.out, bkL_at (by rw [BO.out.1]; exact dd), HY.out])
        have f1 := B0x.out.fz d
        have l1 := B0x.out.lt
        go_wp2_with fail
        go_roundw
        case rel =>
          refine ⟨k + 1, by omega, NZ1, ?_, ?_, ?_, ?_, ?_, ?_⟩
          · rw [GO.out.2]; simp [HL.out]
          · rw [GO.out.1, HNX.out, ← HNB.out]; exact B0y.out
          · exact B1w.out.grown GR.out (by have := HG1.out; simp; omega)
          · rw [GO.out.2, HE.out]; exact REw.out.kept GR.out (fun g hg e => by cases e; have := REw.out.ge hg; omega)
          · exact BBw.out.1.grown GR.out (by have := HG0.out; have := BBw.out.2; omega) (fun k e => by cases e; rw [HG0.out]; exact Nat.le_refl _)
          · exact Nat.le_trans BBw.out.2 GR.out.size
        case measure => exact RM.out
end Go.Proofs.Ythepahhidmihmaa
