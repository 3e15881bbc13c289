/-
  Ours: the document's Entries.
-/
import Derived.Test.YthepahhidmihmaaBdEnt
import Derived.Test.YthepahhidmihmaaRefSum
import Derived.Test.YthepahhidmihmaaWirNear
namespace Go.Proofs.Ythepahhidmihmaa
open Go.RowKit LedM BdM

namespace BdM
/-- The first account from the jth on whose net is above 0; below it; -1 if there is none. -/
def upG (l : List Int) (j : Nat) : Int := if fUp (l.drop j) < (l.drop j).length then (j : Int) + fUp (l.drop j) else -1
def dnG (l : List Int) (j : Nat) : Int := if fDn (l.drop j) < (l.drop j).length then (j : Int) + fDn (l.drop j) else -1
theorem drop_at {l : List Int} {j : Nat} (h : j < l.length) : l.drop j = l.getD j 0 :: l.drop (j + 1) := by
  rw [List.getD_eq_getElem?_getD, List.getElem?_eq_getElem h]; exact List.drop_eq_getElem_cons h
theorem upG_step {l : List Int} {j : Nat} (h : j < l.length) : upG l j = if 0 < l.getD j 0 then (j : Int) else upG l (j + 1) := by
  have hl : (l.drop j).length = (l.drop (j + 1)).length + 1 := by rw [List.length_drop, List.length_drop]; omega
  have hc : fUp (l.drop j) = if 0 < l.getD j 0 then 0 else fUp (l.drop (j + 1)) + 1 := by rw [drop_at h]; rfl
  by_cases hx : 0 < l.getD j 0
  · rw [if_pos hx] at hc ⊢
    unfold upG
    rw [hc, if_pos (by omega)]; simp
  · rw [if_neg hx] at hc ⊢
    unfold upG
    by_cases hy : fUp (l.drop (j + 1)) < (l.drop (j + 1)).length
    · rw [hc, if_pos (by omega), if_pos hy]; simp; omega
    · rw [hc, if_neg (by omega), if_neg hy]
theorem dnG_step {l : List Int} {j : Nat} (h : j < l.length) : dnG l j = if l.getD j 0 < 0 then (j : Int) else dnG l (j + 1) := by
  have hl : (l.drop j).length = (l.drop (j + 1)).length + 1 := by rw [List.length_drop, List.length_drop]; omega
  have hc : fDn (l.drop j) = if l.getD j 0 < 0 then 0 else fDn (l.drop (j + 1)) + 1 := by rw [drop_at h]; rfl
  by_cases hx : l.getD j 0 < 0
  · rw [if_pos hx] at hc ⊢
    unfold dnG
    rw [hc, if_pos (by omega)]; simp
  · rw [if_neg hx] at hc ⊢
    unfold dnG
    by_cases hy : fDn (l.drop (j + 1)) < (l.drop (j + 1)).length
    · rw [hc, if_pos (by omega), if_pos hy]; simp; omega
    · rw [hc, if_neg (by omega), if_neg hy]
theorem upG_end {l : List Int} (h : l.length = 12) : upG l 12 = -1 ∧ dnG l 12 = -1 := by
  have : l.drop 12 = [] := List.drop_eq_nil_of_le (by omega)
  unfold upG dnG; rw [this]; exact ⟨rfl, rfl⟩
theorem upG_all {l : List Int} (h : l.length = 12) : upG l 0 = (if fUp l < 12 then (fUp l : Int) else -1) ∧ dnG l 0 = (if fDn l < 12 then (fDn l : Int) else -1) := by
  unfold upG dnG; rw [List.drop_zero, h]; simp
end BdM

theorem infoL : (Try.prog.info? 2).map (fun i => (i.zero, i.size, i.bytes)) = some (some (.int .i64 0), 1, 8) := by kernel_rfl
theorem RowV.row {e : TypeId} {base : Nat} {w : World} {v : Value} {xs : List Int} (h : RowV e base w v (bkL xs)) : Row e base w v xs := by
  unfold RowV at h
  rw [bkL_len] at h
  exact h
theorem rsum_row {e : TypeId} {base : Nat} {w : World} {v : Value} {xs : List Int} (h : RowV e base w v (bkL xs)) (hx : I64 xs) (hl : xs.length ≤ 4194304) :
    Calls Try.prog 16 #[v] w fun e w' => e = .returned (.tuple #[.int .i64 (smV (total xs)), .bool (smOk (total xs))]) ∧ w' = w := rsum_reads h.row.reads hx hl
theorem bkL_push (xs : List Int) (x : Int) : bkL (xs ++ [x]) = bkL xs ++ [.int .i64 x] := by simp [bkL]

set_option maxHeartbeats 1000000 in
theorem rsums_at (l : List Int) (w : World) (hl : BkOk l) : Calls Try.prog 13 #[.agg (bkL l).toArray] w fun e w' => e = .returned (.bool (okB l)) ∧ Below w.heap.size w w' := by
  obtain ⟨i0, hi, hz0, hz1, hz2⟩ := info_parts infoL
  have SM : Hid (∀ (w : World) v, RowV 2 0 w v (bkL l) → Calls Try.prog 16 #[v] w fun e w' => e = .returned (.tuple #[.int .i64 (smV (total l)), .bool (smOk (total l))]) ∧ w' = w) := fun w v h => rsum_row h hl.2 (by rw [hl.1]; decide)
  have CE : Hid (∀ k, k < 12 → ∀ wr : World, Blk w.heap.size 25 (bkL l) wr → wr.cell? ⟨w.heap.size, k, none⟩ = some (.int .i64 (l.getD k 0))) := fun k hk wr h => h.cell k _ (bkL_at (by rw [hl.1]; exact hk))
  have PU : Hid (∀ k, k < 12 → bkL (l.take (k + 1)) = bkL (l.take k) ++ [.int .i64 (l.getD k 0)]) := fun k hk => by
    show _ = _
    rw [List.take_add_one, List.getElem?_eq_getElem (by rw [hl.1]; exact hk), List.getD_eq_getElem?_getD, List.getElem?_eq_getElem (by rw [hl.1]; exact hk)]
    exact bkL_push _ _
  have LB : Hid (∀ k, (bkL (l.take k)).length ≤ 12) := fun k => by rw [bkL_len, List.length_take, hl.1]; omega
  have HF : Hid (l.take 12 = l) := List.take_of_length_le (by rw [hl.1]; exact Nat.le_refl _)
  have KF : Hid (∀ k, k < 12 → l.getD k 0 = -9223372036854775808 → okB l = false) := fun k hk e => by
    unfold okB
    rw [show l.contains (-9223372036854775808) = true from by
      rw [List.contains_eq_mem, decide_eq_true_eq, ← e, List.getD_eq_getElem?_getD, List.getElem?_eq_getElem (by rw [hl.1]; exact hk)]
      exact List.getElem_mem _]
    simp
  have KT : Hid ((∀ j, j < 12 → l.getD j 0 ≠ -9223372036854775808) → okB l = (smOk (total l) && (smV (total l) == 0))) := fun h => by
    have hc : l.contains (-9223372036854775808) = false := by
      rw [List.contains_eq_mem, decide_eq_false_iff_not]
      intro hm
      obtain ⟨j, hj, e⟩ := List.getElem_of_mem hm
      refine h j (by have := hl.1; omega) ?_
      rw [List.getD_eq_getElem?_getD, List.getElem?_eq_getElem hj]; exact e
    unfold okB
    rw [hc]
    by_cases h0 : total l = 0
    · rw [h0]; decide
    · rw [decide_eq_false h0]
      cases hs : smOk (total l)
      · rfl
      · unfold smV; rw [hs]; simpa using h0
  have NB0 : Hid (Blk w.heap.size 25 (bkL l) (w.alloc (.cells (bkL l).toArray 25))) := Blk.new 25 (bkL l) w
  have BB : Hid (Below w.heap.size w (w.alloc (.cells (bkL l).toArray 25))) := below_alloc w _
  clear hl
  obtain ⟨K, HK⟩ : ∃ K, Hid (okB l = K) := ⟨_, rfl⟩
  rw [HK.out] at KF KT ⊢
  go_enter Try.func13, Try.ntmps13
  go_wp2_with fail
  go_loopw [3, 4] (fun u vk wr => ∃ k : Nat, vk = .int .i64 (k : Int) ∧ k ≤ 12 ∧ Hid (∀ j, j < k → l.getD j 0 ≠ -9223372036854775808) ∧ RowV 2 (w.heap.size + 1) wr u (bkL (l.take k)) ∧ Blk w.heap.size 25 (bkL l) wr ∧ Below w.heap.size w wr) (fun _ vk _ => 12 - (intOf vk).toNat)
  case atStart => exact ⟨0, rfl, by omega, (fun j hj => by omega), RowV.nil _ _ _, NB0.out, BB.out⟩
  case round =>
    clear NB0 BB
    obtain ⟨k, rfl, hk, NO, ru, nb, bb⟩ := hrel
    have RU : Hid (RowV 2 (w.heap.size + 1) wr u3 (bkL (l.take k))) := ru
    have NB : Hid (Blk w.heap.size 25 (bkL l) wr) := nb
    have BB : Hid (Below w.heap.size w wr) := bb
    clear ru nb bb
    have sz : w.heap.size + 1 ≤ wr.heap.size := NB.out.lt
    have lb := LB.out k
    have l1 : (bkL (l.take k)).length + 1 ≤ maxLen := by unfold maxLen; omega
    have l2 : ((bkL (l.take k)).length + 1) * 8 ≤ 140737488355328 := by omega
    clear lb
    by_cases hlt : (k : Int) < 12
    · have c0 := CE.out k (by omega) wr NB.out
      have kf : Hid (l.getD k 0 = -9223372036854775808 → K = false) := KF.out k (by omega)
      have EA : Hid (bkL (l.take (k + 1)) = bkL (l.take k) ++ [.int .i64 (l.getD k 0)]) := PU.out k (by omega)
      have NX : Hid (l.getD k 0 ≠ -9223372036854775808 → ∀ j, j < k + 1 → l.getD j 0 ≠ -9223372036854775808) := fun h j hj => by
        by_cases e : j = k
        · subst e; exact h
        · exact NO.out j (by omega)
      generalize l.getD k 0 = x at *
      by_cases hx : x = -9223372036854775808
      · have d1 : (x == -9223372036854775808) = true := by simp [hx]
        obtain rfl : K = false := kf.out hx
        clear hx
        go_wp2_with fail
        go_ret
        exact ⟨rfl, BB.out⟩
      · have d1 : (x == -9223372036854775808) = false := by simp [hx]
        have NY : Hid (∀ j, j < k + 1 → l.getD j 0 ≠ -9223372036854775808) := NX.out hx
        clear hx NX kf
        generalize bkL (l.take k) = us at *
        go_wp2_with (at_builtin; refine wpList_pushN rfl (.tmp 16) (.tmp 21) 22 rfl 2 i0 (.int .i64 0) 8 Try.underlying22 hi hz0 hz1 hz2 rfl (w.heap.size + 1) u3 us _ rfl rfl RU.out sz rfl l1 l2 ?_; intro v' w1 r1 g1 n1)
        go_roundw
        case rel =>
          have ge : ∀ g, u3.ownBlock = some g → w.heap.size + 1 ≤ g := fun g hg => RU.out.block_ge hg
          exact ⟨k + 1, by go_num, by omega, NY, by rw [EA.out]; exact r1, NB.out.grown g1 (fun e => by have := ge _ e; omega), BB.out.grown g1 (by omega) (fun g hg => by have := ge g hg; omega)⟩
        case measure => simp [intOf]; omega
    · obtain rfl : k = 12 := by omega
      have S1 : Hid (RowV 2 0 wr u3 (bkL l)) := by have := RU.out.mono (Nat.zero_le _); rwa [HF.out] at this
      have SM1 : Hid (Calls Try.prog 16 #[u3] wr fun e w' => e = .returned (.tuple #[.int .i64 (smV (total l)), .bool (smOk (total l))]) ∧ w' = wr) := SM.out wr u3 S1.out
      have KK : Hid (K = (smOk (total l) && (smV (total l) == 0))) := KT.out NO.out
      clear SM S1 hlt hk CE PU LB HF KF KT RU l1 l2 HK NO
      generalize smV (total l) = sv at *
      generalize smOk (total l) = sk at *
      go_wp2_with fail
      refine SM1.out.mono ?_
      rintro e w3 ⟨rfl, hw⟩; rw [hw]; clear hw w3
      cases sk
      · obtain rfl : K = false := KK.out
        go_wp2_with fail
        go_ret
        exact ⟨rfl, BB.out⟩
      · obtain rfl : K = (sv == 0) := by have := KK.out; simpa using this
        go_wp2_with fail
        go_ret
        exact ⟨rfl, BB.out⟩

set_option maxHeartbeats 2000000 in
theorem rentries_at (l : List Int) (w : World) (hl : BkOk l) : Calls Try.prog 6 #[.agg (bkL l).toArray] w fun e w' => ∃ v, e = .returned (.tuple #[v, .bool (okB l)]) ∧ RowE w.heap.size w' v (mv l) ∧ Below w.heap.size w w' := by
  have SM : Hid (∀ w', Calls Try.prog 13 #[.agg (bkL l).toArray] w' fun e w2 => e = .returned (.bool (okB l)) ∧ Below w'.heap.size w' w2) := fun w' => rsums_at l w' hl
  have NB : Hid (Blk w.heap.size 25 (bkL l) (w.alloc (.cells (bkL l).toArray 25))) := Blk.new _ _ _
  have BB : Hid (Below w.heap.size w (w.alloc (.cells (bkL l).toArray 25))) := below_alloc w _
  have SZ : Hid ((w.alloc (.cells (bkL l).toArray 25)).heap.size = w.heap.size + 1) := by show _ = _; simp
  have CB : Hid ((Try.prog.info? 25).map (·.size) = some (bkL l).length) := by show _ = _; rw [bkL_len, hl.1]; exact cellsBk
  have MV0 : Hid (okB l = false → mv l = []) := fun h => by unfold mv; rw [h]; rfl
  have MV1 : Hid (okB l = true → mv l = es 12 l ∧ Bal l) := fun h => ⟨by unfold mv; rw [h]; rfl, bal_of hl h⟩
  obtain ⟨b, hb⟩ : ∃ b, okB l = b := ⟨_, rfl⟩
  rw [hb] at SM MV0 MV1 ⊢
  obtain ⟨M, HM⟩ : ∃ M, Hid (mv l = M) := ⟨_, rfl⟩
  rw [HM.out] at MV0 MV1 ⊢
  clear hb hl
  go_enter Try.func6, Try.ntmps6
  go_upto_region 1 with fail
  generalize w.alloc (.cells (bkL l).toArray 25) = w2 at *
  go_wp2_with (refine step_load rfl 25 _ rfl w.heap.size 0 rfl (bkL l) _ NB.out.all Try.underlying25 rfl CB.out ?_)
  refine (SM.out w2).mono ?_
  rintro e w3 ⟨rfl, hb3⟩
  have B3 : Hid (Blk w.heap.size 25 (bkL l) w3) := NB.out.below hb3
  have BB3 : Hid (Below w.heap.size w w3) := below_trans BB.out hb3
  have SZ3 : Hid (w.heap.size + 1 ≤ w3.heap.size) := B3.out.lt
  clear hb3 NB BB SZ SM CB
  cases b
  · obtain rfl := MV0.out rfl
    go_wp2_with fail
    go_ret2
    exact ⟨_, rfl, RowE.nil _ _, BB3.out⟩
  · obtain ⟨e0, bal⟩ := MV1.out rfl
    have BL : Hid (Bal l) := bal
    have E0 : Hid (M = es 12 l) := e0
    clear MV0 MV1 bal e0
    obtain ⟨g0, hg0⟩ : ∃ g, w.heap.size = g := ⟨_, rfl⟩
    have HG0 : Hid (w.heap.size = g0) := hg0
    rw [hg0] at B3 SZ3 ⊢
    clear hg0
    go_wp2_with fail
    go_loopw [4, 5, 6, 7, 8, 9] (fun v i _ _ _ _ wr => ∃ k : Nat, k ≤ 12 ∧ i = .int .i64 (k : Int) ∧ (es k l).length ≤ k ∧ Blk g0 25 (bkL (it k l)) wr ∧ RowE (g0 + 1) wr v (es k l) ∧ Below w.heap.size w wr ∧ g0 + 1 ≤ wr.heap.size) (fun _ i _ _ _ _ _ => 12 - (intOf i).toNat)
    case atStart => exact ⟨0, by omega, rfl, Nat.le_refl _, B3.out, RowE.nil _ _, BB3.out, SZ3.out⟩
    case round =>
      clear B3 BB3 SZ3
      obtain ⟨k, hk, rfl, hlen, b0, re, bb, hsz⟩ := hrel
      have B0 : Hid (Blk g0 25 (bkL (it k l)) wr) := b0
      have RE : Hid (RowE (g0 + 1) wr u4 (es k l)) := re
      have BB : Hid (Below w.heap.size w wr) := bb
      have HL : Hid ((es k l).length ≤ k) := hlen
      clear b0 re bb hlen
      by_cases hlt : (k : Int) < 12
      · have bal := BL.out.keeps k
        have CE : Hid (∀ i, i < 12 → wr.cell? ⟨g0, i, none⟩ = some (.int .i64 ((it k l).getD i 0))) := fun i hi => B0.out.cell i _ (bkL_at (by rw [bal.len]; exact hi))
        have US : Hid (∀ j, j < 12 → upG (it k l) j = (if 0 < (it k l).getD j 0 then (j : Int) else upG (it k l) (j + 1)) ∧ dnG (it k l) j = (if (it k l).getD j 0 < 0 then (j : Int) else dnG (it k l) (j + 1))) := fun j hj => ⟨upG_step (by rw [bal.len]; exact hj), dnG_step (by rw [bal.len]; exact hj)⟩
        have UE : Hid (upG (it k l) 12 = -1 ∧ dnG (it k l) 12 = -1) := upG_end bal.len
        have UA : Hid (upG (it k l) 0 = (if fUp (it k l) < 12 then (fUp (it k l) : Int) else -1) ∧ dnG (it k l) 0 = (if fDn (it k l) < 12 then (fDn (it k l) : Int) else -1)) := upG_all bal.len
        have HLM : Hid ((it k l).length = 12) := bal.len
        have GOZ : Hid (it k l = z12 → it (k + 1) l = it k l ∧ es (k + 1) l = es k l) := fun hz => by have := it_stop hz 1; exact ⟨this.1.trans hz.symm, this.2⟩
        have GON : Hid (it k l ≠ z12 → it (k + 1) l = nx (it k l) ∧ es (k + 1) l = es k l ++ [ent (it k l)]) := fun hz => it_go hz
        have BAL : Hid (Bal (it k l)) := bal
        clear bal
        generalize it k l = m at *
        generalize es k l = fs at *
        go_wp2_with fail
        go_loop [6, 7, 8] (fun a b c => ∃ j : Nat, j ≤ 12 ∧ c = .int .i64 ((j : Int) - 1) ∧ a = .int .i64 (upG m j) ∧ b = .int .i64 (dnG m j)) (fun _ _ c => ((intOf c) + 1).toNat)
        case atStart => exact ⟨12, by omega, rfl, by rw [UE.out.1], by rw [UE.out.2]⟩
        case round =>
          obtain ⟨j, hj, rfl, rfl, rfl⟩ := hrel
          by_cases h0 : j = 0
          · obtain ⟨ua, da⟩ := UA.out
            have UJ : Hid (upG m j = (if fUp m < 12 then (fUp m : Int) else -1) ∧ dnG m j = (if fDn m < 12 then (fDn m : Int) else -1)) := by rw [h0]; exact ⟨ua, da⟩
            obtain ⟨V, hV⟩ : ∃ V, (j : Int) - 1 = V := ⟨_, rfl⟩
            have hv : V < 0 := by omega
            have dv : decide (0 ≤ V) = false := decide_eq_false (by omega)
            rw [hV]
            clear ua da US UE UA h0 hV hj
            generalize upG m j = ua at *
            generalize dnG m j = da at *
            by_cases hz : m = z12
            · have U1 : ua = -1 := by rw [UJ.out.1, hz]; decide
              have D1 : da = -1 := by rw [UJ.out.2, hz]; decide
              have du : decide (0 ≤ ua) = false := decide_eq_false (by omega)
              obtain ⟨g1, g2⟩ := GOZ.out hz
              have G1 : Hid (it (k + 1) l = m) := g1
              have G2 : Hid (es (k + 1) l = fs) := g2
              clear UJ U1 D1 hz GOZ GON g1 g2 hv CE
              go_wp2_with fail
              go_roundw
              case rel => exact ⟨k + 1, by omega, by go_num, by rw [G2.out]; have := HL.out; omega, by rw [G1.out]; exact B0.out, by rw [G2.out]; exact RE.out, BB.out, hsz⟩
              case measure => simp [intOf]; omega
            · have GO : Hid (it (k + 1) l = nx m ∧ es (k + 1) l = fs ++ [ent m]) := GON.out hz
              obtain ⟨uu, dd⟩ := BAL.out.ne hz
              obtain ⟨xp, yp, une, a1⟩ := BAL.out.two hz
              have bu := BAL.out.bnd (fUp m)
              have bd := BAL.out.bnd (fDn m)
              obtain ⟨al0, al1, _⟩ := am_le (l := m)
              have AM : Hid (am m = if -m.getD (fDn m) 0 < m.getD (fUp m) 0 then -m.getD (fDn m) 0 else m.getD (fUp m) 0) := rfl
              have HNX : Hid (nx m = (m.set (fUp m) (m.getD (fUp m) 0 - am m)).set (fDn m) (m.getD (fDn m) 0 + am m)) := by
                show nx m = _
                have := BAL.out.n1D hz (fDn m)
                rw [if_neg (fun e => une e.symm)] at this
                unfold nx
                rw [this]; rfl
              have HE : Hid (ent m = ⟨fUp m, fDn m, am m⟩) := rfl
              have NE : Hid (fUp m ≠ fDn m) := une
              have c0 := CE.out (fUp m) uu
              have c1 := CE.out (fDn m) dd
              have U1 : ua = (fUp m : Int) := by rw [UJ.out.1, if_pos uu]
              have D1 : da = (fDn m : Int) := by rw [UJ.out.2, if_pos dd]
              subst U1 D1
              clear UJ GOZ GON CE hv BAL une hz
              generalize fUp m = u at *
              generalize fDn m = d at *
              generalize am m = n at *
              obtain ⟨x, hx⟩ : ∃ x, m.getD u 0 = x := ⟨_, rfl⟩
              obtain ⟨y, hy⟩ : ∃ y, m.getD d 0 = y := ⟨_, rfl⟩
              have HY : Hid (m.getD d 0 = y) := hy
              rw [hx] at xp al0 bu HNX AM c0
              rw [hy] at yp al1 bd HNX AM c1
              clear hx hy
              have u0 : (u : Int) < 12 := by omega
              have d0 : (d : Int) < 12 := by omega
              have u1 : (0 : Int) ≤ u := by omega
              have d1 : (0 : Int) ≤ d := by omega
              have ny : IntKind.i64.wrap (-y) = -y := by rw [IntKind.wrap_i64]; omega
              by_cases hm : -y < x
              · have d2 : decide (-y < x) = true := decide_eq_true hm
                have en : -y = n := (AM.out.trans (if_pos hm)).symm
                have nxu : IntKind.i64.wrap (x - -y) = x + y := by rw [IntKind.wrap_i64]; omega
                have nxu2 : IntKind.i64.wrap (x + y) = x + y := by rw [IntKind.wrap_i64]; omega
                have nxd : IntKind.i64.wrap (y + -y) = 0 := by rw [IntKind.wrap_i64]; omega
                subst en
                clear AM hm al0 al1
                have HN2 : Hid (nx m = (m.set u (x + y)).set d 0) := by show _ = _; rw [HNX.out, show x - -y = x + y from by omega, show y + -y = 0 from by omega]
                have B0x : Hid (Blk g0 25 ((bkL m).set u (.int .i64 (x + y))) (wr.setCell ⟨g0, u, none⟩ (.int .i64 (x + y)))) := B0.out.set _
                have B0y : Hid (Blk g0 25 (bkL (nx m)) ((wr.setCell ⟨g0, u, none⟩ (.int .i64 (x + y))).setCell ⟨g0, d, none⟩ (.int .i64 0))) := by
                  have := B0x.out.set (i := d) (.int .i64 0)
                  show Blk _ _ _ _
                  rw [HN2.out]
                  simpa [bkL, List.map_set] using this
                have GR : Hid (wr.grownBy ((wr.setCell ⟨g0, u, none⟩ (.int .i64 (x + y))).setCell ⟨g0, d, none⟩ (.int .i64 0)) (some g0)) := by
                  have h1 := setCell_grown wr g0 u (.int .i64 (x + y))
                  have h2 := setCell_grown (wr.setCell ⟨g0, u, none⟩ (.int .i64 (x + y))) g0 d (.int .i64 0)
                  exact ⟨h2.os.trans h1.os, h2.tape.trans h1.tape, h2.output.trans h1.output, Nat.le_trans h1.size h2.size, fun k hk hn => (h2.block k (Nat.lt_of_lt_of_le hk h1.size) hn).trans (h1.block k hk hn)⟩
                have f0 := B0.out.fz u
                have l0 := B0.out.lt
                have c3 := B0x.out.cell d (.int .i64 y) (by rw [List.getElem?_set_ne NE.out, bkL_at (by rw [HLM.out]; exact dd), HY.out])
                have f1 := B0x.out.fz d
                have l1 := B0x.out.lt
                go_upto_region 22 with fail
                obtain ⟨w6, hw6⟩ : ∃ w6, (wr.setCell ⟨g0, u, none⟩ (.int .i64 (x + y))).setCell ⟨g0, d, none⟩ (.int .i64 0) = w6 := ⟨_, rfl⟩
                rw [hw6] at B0y GR ⊢
                clear hw6 c0 c1 f0 l0 c3 f1 l1 B0x
                have REw : Hid (RowE (g0 + 1) w6 u4 fs) := RE.out.kept GR.out (fun g hg e => by cases e; have := RE.out.ge hg; omega)
                have hs6 : g0 + 1 ≤ w6.heap.size := Nat.le_trans hsz GR.out.size
                have B6 : Hid (Below w.heap.size w w6) := BB.out.grown GR.out (by have := HG0.out; omega) (fun k e => by cases e; rw [HG0.out]; exact Nat.le_refl _)
                have W7 : Hid (Below w6.heap.size w6 (w6.alloc (.cells #[Value.int .i64 (u : Int), Value.int .i64 (d : Int), Value.int .i64 (-y)] 30)) ∧ w6.heap.size ≤ (w6.alloc (.cells #[Value.int .i64 (u : Int), Value.int .i64 (d : Int), Value.int .i64 (-y)] 30)).heap.size) := ⟨below_alloc w6 _, by simp⟩
                have RO : Hid (RdE (w6.alloc (.cells #[Value.int .i64 (u : Int), Value.int .i64 (d : Int), Value.int .i64 (-y)] 30)) (.slice (some ⟨w6.heap.size, 0, none⟩) 1 1) [⟨u, d, (-y)⟩]) := RdE.one w6 ⟨u, d, (-y)⟩
                clear RE BB B0 GR hsz
                go_wp2_with (at_builtin; refine wpList_catE rfl (.tmp 73) (.tmp 78) rfl (g0 + 1) u4 _ fs [⟨u, d, (-y)⟩] rfl (REw.out.later W7.out.1) (Nat.le_trans hs6 W7.out.2) rfl RO.out (by have := HL.out; simp; omega) ?_; intro v5 w5 re5 gr5)
                have OG : Hid (∀ g, u4.ownBlock = some g → g0 + 1 ≤ g) := fun g hg => REw.out.ge hg
                go_roundw
                case rel =>
                  refine ⟨k + 1, by omega, by go_num, by rw [GO.out.2, HE.out, List.length_append, List.length_singleton]; have := HL.out; omega, ?_, ?_, ?_, ?_⟩
                  · rw [GO.out.1]; exact (B0y.out.below W7.out.1).grown gr5 (fun e => by have := OG.out _ e; omega)
                  · rw [GO.out.2, HE.out]; exact re5
                  · exact (below_trans B6.out W7.out.1).grown gr5 (by have := HG0.out; have := W7.out.2; omega) (fun g hg => by have := OG.out _ hg; have := HG0.out; omega)
                  · exact Nat.le_trans (Nat.le_trans hs6 W7.out.2) gr5.size
                case measure => simp [intOf]; omega
              · have d2 : decide (-y < x) = false := decide_eq_false hm
                have en : x = n := (AM.out.trans (if_neg hm)).symm
                have nxu : IntKind.i64.wrap (x - x) = 0 := by rw [IntKind.wrap_i64]; omega
                have nxd : IntKind.i64.wrap (y + x) = y + x := by rw [IntKind.wrap_i64]; omega
                subst en
                clear AM hm al0 al1
                have HN2 : Hid (nx m = (m.set u 0).set d (y + x)) := by show _ = _; rw [HNX.out, show x - x = 0 from by omega]
                have B0x : Hid (Blk g0 25 ((bkL m).set u (.int .i64 0)) (wr.setCell ⟨g0, u, none⟩ (.int .i64 0))) := B0.out.set _
                have B0y : Hid (Blk g0 25 (bkL (nx m)) ((wr.setCell ⟨g0, u, none⟩ (.int .i64 0)).setCell ⟨g0, d, none⟩ (.int .i64 (y + x)))) := by
                  have := B0x.out.set (i := d) (.int .i64 (y + x))
                  show Blk _ _ _ _
                  rw [HN2.out]
                  simpa [bkL, List.map_set] using this
                have GR : Hid (wr.grownBy ((wr.setCell ⟨g0, u, none⟩ (.int .i64 0)).setCell ⟨g0, d, none⟩ (.int .i64 (y + x))) (some g0)) := by
                  have h1 := setCell_grown wr g0 u (.int .i64 0)
                  have h2 := setCell_grown (wr.setCell ⟨g0, u, none⟩ (.int .i64 0)) g0 d (.int .i64 (y + x))
                  exact ⟨h2.os.trans h1.os, h2.tape.trans h1.tape, h2.output.trans h1.output, Nat.le_trans h1.size h2.size, fun k hk hn => (h2.block k (Nat.lt_of_lt_of_le hk h1.size) hn).trans (h1.block k hk hn)⟩
                have f0 := B0.out.fz u
                have l0 := B0.out.lt
                have c3 := B0x.out.cell d (.int .i64 y) (by rw [List.getElem?_set_ne NE.out, bkL_at (by rw [HLM.out]; exact dd), HY.out])
                have f1 := B0x.out.fz d
                have l1 := B0x.out.lt
                go_upto_region 22 with fail
                obtain ⟨w6, hw6⟩ : ∃ w6, (wr.setCell ⟨g0, u, none⟩ (.int .i64 0)).setCell ⟨g0, d, none⟩ (.int .i64 (y + x)) = w6 := ⟨_, rfl⟩
                rw [hw6] at B0y GR ⊢
                clear hw6 c0 c1 f0 l0 c3 f1 l1 B0x
                have REw : Hid (RowE (g0 + 1) w6 u4 fs) := RE.out.kept GR.out (fun g hg e => by cases e; have := RE.out.ge hg; omega)
                have hs6 : g0 + 1 ≤ w6.heap.size := Nat.le_trans hsz GR.out.size
                have B6 : Hid (Below w.heap.size w w6) := BB.out.grown GR.out (by have := HG0.out; omega) (fun k e => by cases e; rw [HG0.out]; exact Nat.le_refl _)
                have W7 : Hid (Below w6.heap.size w6 (w6.alloc (.cells #[Value.int .i64 (u : Int), Value.int .i64 (d : Int), Value.int .i64 x] 30)) ∧ w6.heap.size ≤ (w6.alloc (.cells #[Value.int .i64 (u : Int), Value.int .i64 (d : Int), Value.int .i64 x] 30)).heap.size) := ⟨below_alloc w6 _, by simp⟩
                have RO : Hid (RdE (w6.alloc (.cells #[Value.int .i64 (u : Int), Value.int .i64 (d : Int), Value.int .i64 x] 30)) (.slice (some ⟨w6.heap.size, 0, none⟩) 1 1) [⟨u, d, x⟩]) := RdE.one w6 ⟨u, d, x⟩
                clear RE BB B0 GR hsz
                go_wp2_with (at_builtin; refine wpList_catE rfl (.tmp 73) (.tmp 78) rfl (g0 + 1) u4 _ fs [⟨u, d, x⟩] rfl (REw.out.later W7.out.1) (Nat.le_trans hs6 W7.out.2) rfl RO.out (by have := HL.out; simp; omega) ?_; intro v5 w5 re5 gr5)
                have OG : Hid (∀ g, u4.ownBlock = some g → g0 + 1 ≤ g) := fun g hg => REw.out.ge hg
                go_roundw
                case rel =>
                  refine ⟨k + 1, by omega, by go_num, by rw [GO.out.2, HE.out, List.length_append, List.length_singleton]; have := HL.out; omega, ?_, ?_, ?_, ?_⟩
                  · rw [GO.out.1]; exact (B0y.out.below W7.out.1).grown gr5 (fun e => by have := OG.out _ e; omega)
                  · rw [GO.out.2, HE.out]; exact re5
                  · exact (below_trans B6.out W7.out.1).grown gr5 (by have := HG0.out; have := W7.out.2; omega) (fun g hg => by have := OG.out _ hg; have := HG0.out; omega)
                  · exact Nat.le_trans (Nat.le_trans hs6 W7.out.2) gr5.size
                case measure => simp [intOf]; omega
          · obtain ⟨i, rfl⟩ : ∃ i, j = i + 1 := ⟨j - 1, by omega⟩
            have ci := CE.out i (by omega)
            obtain ⟨us, ds⟩ := US.out i (by omega)
            have US1 : Hid (upG m i = if 0 < m.getD i 0 then (i : Int) else upG m (i + 1)) := us
            have DS1 : Hid (dnG m i = if m.getD i 0 < 0 then (i : Int) else dnG m (i + 1)) := ds
            clear us ds US UE UA CE
            rw [show ((i + 1 : Nat) : Int) - 1 = (i : Int) from by omega]
            generalize upG m (i + 1) = au at *
            generalize dnG m (i + 1) = ad at *
            generalize m.getD i 0 = x at *
            have i0 : (0 : Int) ≤ (i : Int) := by omega
            have i1 : (i : Int) < 12 := by omega
            have wi : IntKind.i64.wrap ((i : Int) - 1) = (i : Int) - 1 := by rw [IntKind.wrap_i64]; omega
            clear GOZ GON BAL hlt hj h0
            by_cases hp : 0 < x
            · have e1 : Hid (upG m i = (i : Int)) := US1.out.trans (if_pos hp)
              have e2 : Hid (dnG m i = ad) := DS1.out.trans (if_neg (by omega))
              have d1 : decide (0 < x) = true := decide_eq_true hp
              have d2 : decide (x < 0) = false := decide_eq_false (by omega)
              clear US1 DS1 hp
              go_wp2_with fail
              go_round
              case rel => exact ⟨i, by omega, rfl, by rw [e1.out], by rw [e2.out]⟩
              case measure => simp [intOf]
            · by_cases hn : x < 0
              · have e1 : Hid (upG m i = au) := US1.out.trans (if_neg hp)
                have e2 : Hid (dnG m i = (i : Int)) := DS1.out.trans (if_pos hn)
                have d1 : decide (0 < x) = false := decide_eq_false hp
                have d2 : decide (x < 0) = true := decide_eq_true hn
                clear US1 DS1 hp hn
                go_wp2_with fail
                go_round
                case rel => exact ⟨i, by omega, rfl, by rw [e1.out], by rw [e2.out]⟩
                case measure => simp [intOf]
              · have e1 : Hid (upG m i = au) := US1.out.trans (if_neg hp)
                have e2 : Hid (dnG m i = ad) := DS1.out.trans (if_neg hn)
                have d1 : decide (0 < x) = false := decide_eq_false hp
                have d2 : decide (x < 0) = false := decide_eq_false hn
                clear US1 DS1 hp hn
                go_wp2_with fail
                go_round
                case rel => exact ⟨i, by omega, rfl, by rw [e1.out], by rw [e2.out]⟩
                case measure => simp [intOf]
      · obtain rfl : k = 12 := by omega
        go_wp2_with fail
        go_ret2
        exact ⟨_, rfl, by rw [E0.out]; exact RE.out.mono (by rw [HG0.out]; omega), BB.out⟩
end Go.Proofs.Ythepahhidmihmaa
