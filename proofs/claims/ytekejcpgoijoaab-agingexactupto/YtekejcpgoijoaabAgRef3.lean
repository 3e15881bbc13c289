/-
  Ours: the reference's Missed, Mark; the statements' samePlan, sameRows.
-/
import Derived.Test.YtekejcpgoijoaabAgRef
import Derived.Test.YtekejcpgoijoaabAgMiss
namespace Go.Proofs.Ytekejcpgoijoaab
open Go.RowKit LedM AgM

set_option maxRecDepth 20000 in
set_option maxHeartbeats 2000000 in
theorem rmiss_at (l : List Ins) (A R t gr : Int) (n : Nat) (v : Value) (w : World) (hl : l.length ≤ 1000000) (ok : ∀ x ∈ l, InsOk x) (hA : i64 A) (ht : i64 t) (hn : SatF (sP l) A R n) (h : RdP w v l) :
    Calls Try.prog 10 #[v, .agg #[.int .i64 A, .int .i64 R], .int .i64 t, .int .i64 gr] w fun e w' => ∃ v', e = .returned v' ∧ Row 3 w.heap.size w' v' (mssL l n t gr) ∧ Below w.heap.size w w' := by
  obtain ⟨i0, hi, hz0, hz1, hz2⟩ := info_parts Try.info3
  have BC : Hid (Below w.heap.size w (w.alloc (.cells #[.int .i64 A, .int .i64 R] 24)) ∧ Blk w.heap.size 24 [.int .i64 A, .int .i64 R] (w.alloc (.cells #[.int .i64 A, .int .i64 R] 24))) := ⟨below_alloc w _, Blk.new 24 [.int .i64 A, .int .i64 R] w⟩
  have SO : Hid (∀ w', Below w.heap.size w w' → Calls Try.prog 24 #[v] w' fun e w2 => e = .returned (if Snd l then v else .slice none 0 0) ∧ Below w'.heap.size w' w2) := fun w' hb => rrows_at l v w' hl ok (h.later hb)
  have ST : Hid (∀ w', Below w.heap.size w w' → Calls Try.prog 25 #[if Snd l then v else .slice none 0 0, .agg #[.int .i64 A, .int .i64 R]] w' fun e w2 => e = .returned (.int .i64 (n : Int)) ∧ Below w'.heap.size w' w2) := fun w' hb => rsat_at (sP l) A R n _ w' (Nat.le_trans (Nat.le_trans (sP_len l) hl) (by omega)) hA (sP_snd l) hn (rd_sP (h.later hb))
  have h2 := rd_sP h
  have h2' := h2
  obtain ⟨ao, cap, hV, -, -, -⟩ := h2
  rw [hV] at SO ST h2'
  have CE : Hid (∀ w', Below w.heap.size w w' → ∀ i, i < (sP l).length → ∃ g o, ao = some ⟨g, o, none⟩ ∧ w'.rangeAt g (o + i * 4) (insL (iN (sP l) i))) := h2'.cells
  have hle := hn.le
  have hs := sP_snd l
  have hm := Nat.le_trans (sP_len l) hl
  have em : mssL l n t gr = nI (msN (sP l) n t gr (sP l).length) := rfl
  rw [em]
  clear hV h hl ok h2' em hn
  generalize sP l = l at *
  have LA : Hid (∀ k, k < l.length → ∀ w, Calls Try.prog 23 #[.agg (insL (iN l k)).toArray, .int .i64 t] w fun e w' => e = .returned (.int .i64 (ltD (iN l k).d t)) ∧ Below w.heap.size w w') := fun k hk w => rlate_at _ t w (snd_row hs hk).1 ht.2
  have MS : Hid (∀ k, n ≤ k → nI (msN l n t gr (k + 1)) = nI (msN l n t gr k) ++ (if !(iN l k).m && decide ((if gr < 0 then 0 else gr) < ltD (iN l k).d t) then [(k : Int)] else [])) := fun k hk => by
    rw [msN_succ, nI_app]; congr 1
    unfold isM; rw [decide_eq_true hk, Bool.true_and]
    generalize (!(iN l k).m && decide ((if gr < 0 then 0 else gr) < ltD (iN l k).d t)) = b
    cases b <;> rfl
  have ML : Hid (∀ k, (nI (msN l n t gr k)).length ≤ k) := fun k => by show (List.map _ _).length ≤ _; rw [List.length_map]; exact msN_len l n t gr k
  have M0 : Hid (nI (msN l n t gr n) = []) := by show _ = _; rw [msN_start l n t gr n (Nat.le_refl _)]; rfl
  obtain ⟨L, hL⟩ : ∃ L, l.length = L := ⟨_, rfl⟩
  rw [hL] at SO ST CE LA hle hm ⊢
  clear hL hs
  obtain ⟨G, HG⟩ : ∃ G : Int, Hid ((if gr < 0 then 0 else gr) = G) := ⟨_, rfl⟩
  rw [HG.out] at MS
  go_enter Try.func10, Try.ntmps10
  go_wp2_with fail
  refine (SO.out _ BC.out.1).mono ?_
  rintro e w2 ⟨rfl, b2⟩
  have B2 : Hid (Below w.heap.size w w2 ∧ Blk w.heap.size 24 [.int .i64 A, .int .i64 R] w2) := ⟨below_trans BC.out.1 b2, BC.out.2.below b2⟩
  clear b2 BC SO
  have p0 := B2.out.2.cell 0 _ rfl
  have p1 := B2.out.2.cell 1 _ rfl
  by_cases hg : gr < 0
  · have EG : Hid (G = 0) := by show _ = _; rw [← HG.out, if_pos hg]
    clear HG
    go_wp2_with fail
    refine (ST.out _ B2.out.1).mono ?_
    rintro e w3 ⟨rfl, b3⟩
    have B3 : Hid (Below w.heap.size w w3) := below_trans B2.out.1 b3
    clear b3 B2 ST p0 p1
    go_wp2_with fail
    go_loopw [10, 11] (fun vr vk wr => ∃ k : Nat, vk = .int .i64 (k : Int) ∧ n ≤ k ∧ k ≤ L ∧ Hid (Row 3 w.heap.size wr vr (nI (msN l n t gr k)) ∧ Below w.heap.size w wr)) (fun _ vk _ => L - (intOf vk).toNat)
    case atStart => exact ⟨n, rfl, Nat.le_refl _, by omega, by rw [M0.out]; exact Row.nil _ _ _, B3.out⟩
    case round =>
      obtain ⟨k, rfl, hnk, hk, BB⟩ := hrel
      by_cases hlt' : (k : Int) < (L : Int)
      · obtain ⟨g, o, rfl, rg⟩ := CE.out wr BB.out.2 k (by omega)
        have RG : Hid (wr.rangeAt g (o + k * 4) (insL (iN l k))) := rg
        have c3 : wr.cell? ⟨g, o + k * 4 + 3, none⟩ = some (.bool (iN l k).m) := rg 3 _ rfl
        have ms := MS.out k hnk
        have ml := ML.out k
        have LK : Hid _ := LA.out k (by omega)
        clear rg CE LA MS ML
        have MK : Hid (nI (msN l n t gr (k + 1)) = nI (msN l n t gr k) ++ (if !(iN l k).m && decide (G < ltD (iN l k).d t) then [(k : Int)] else [])) := ms
        clear ms
        generalize iN l k = x at *
        generalize nI (msN l n t gr k) = xs at *
        generalize ltD x.d t = z at *
        obtain ⟨q, hq⟩ : ∃ q, x.m = q := ⟨_, rfl⟩
        rw [hq] at c3 MK
        cases q
        · go_wp2_with (first
            | (refine step_loadG rfl 32 _ rfl g (o + k * 4) rfl (insL x) _ RG.out Try.underlying32 rfl (infoI _) ?_))
          refine (LK.out _).mono ?_
          rintro e w4 ⟨rfl, b4⟩
          have B4 : Hid (Row 3 w.heap.size w4 u10 xs ∧ Below w.heap.size w w4) := ⟨BB.out.1.later b4, below_trans BB.out.2 b4⟩
          clear b4 BB RG c3 LK
          by_cases hz : 0 < z
          · have MK2 : Hid (nI (msN l n t gr (k + 1)) = xs ++ [(k : Int)]) := by show _ = _; rw [MK.out, EG.out]; simp [hz]
            clear MK
            go_wp2_with (at_builtin; refine wpList_push rfl (.tmp 41) (.tmp 43) 30 rfl 3 i0 Try.underlying30 hi hz0 hz1 hz2 w.heap.size w.heap.size w _ _ _ rfl B4.out.1 B4.out.2 (Nat.le_refl _) B4.out.2.size rfl (by omega) ?_; intro v' w5 hown' hnx' hsz')
            go_roundw
            case rel => exact ⟨k + 1, by go_num, by omega, by omega, by rw [MK2.out]; exact hown', hnx'⟩
            case measure => simp [intOf]; omega
          · have MK2 : Hid (nI (msN l n t gr (k + 1)) = xs) := by show _ = _; rw [MK.out, EG.out]; simp [hz]
            clear MK
            go_wp2_with fail
            go_roundw
            case rel => exact ⟨k + 1, by go_num, by omega, by omega, by rw [MK2.out]; exact B4.out.1, B4.out.2⟩
            case measure => simp [intOf]; omega
        · have MK2 : Hid (nI (msN l n t gr (k + 1)) = xs) := by show _ = _; rw [MK.out]; simp
          go_wp2_with fail
          go_roundw
          case rel => exact ⟨k + 1, by go_num, by omega, by omega, by rw [MK2.out]; exact BB.out.1, BB.out.2⟩
          case measure => simp [intOf]; omega
      · obtain rfl : k = L := by omega
        go_wp2_with fail
        go_ret
        exact ⟨_, rfl, BB.out.1, BB.out.2⟩
  · have EG : Hid (G = gr) := by show _ = _; rw [← HG.out, if_neg hg]
    clear HG
    go_wp2_with fail
    refine (ST.out _ B2.out.1).mono ?_
    rintro e w3 ⟨rfl, b3⟩
    have B3 : Hid (Below w.heap.size w w3) := below_trans B2.out.1 b3
    clear b3 B2 ST p0 p1
    go_wp2_with fail
    go_loopw [10, 11] (fun vr vk wr => ∃ k : Nat, vk = .int .i64 (k : Int) ∧ n ≤ k ∧ k ≤ L ∧ Hid (Row 3 w.heap.size wr vr (nI (msN l n t gr k)) ∧ Below w.heap.size w wr)) (fun _ vk _ => L - (intOf vk).toNat)
    case atStart => exact ⟨n, rfl, Nat.le_refl _, by omega, by rw [M0.out]; exact Row.nil _ _ _, B3.out⟩
    case round =>
      obtain ⟨k, rfl, hnk, hk, BB⟩ := hrel
      by_cases hlt' : (k : Int) < (L : Int)
      · obtain ⟨g, o, rfl, rg⟩ := CE.out wr BB.out.2 k (by omega)
        have RG : Hid (wr.rangeAt g (o + k * 4) (insL (iN l k))) := rg
        have c3 : wr.cell? ⟨g, o + k * 4 + 3, none⟩ = some (.bool (iN l k).m) := rg 3 _ rfl
        have ms := MS.out k hnk
        have ml := ML.out k
        have LK : Hid _ := LA.out k (by omega)
        clear rg CE LA MS ML
        have MK : Hid (nI (msN l n t gr (k + 1)) = nI (msN l n t gr k) ++ (if !(iN l k).m && decide (G < ltD (iN l k).d t) then [(k : Int)] else [])) := ms
        clear ms
        generalize iN l k = x at *
        generalize nI (msN l n t gr k) = xs at *
        generalize ltD x.d t = z at *
        obtain ⟨q, hq⟩ : ∃ q, x.m = q := ⟨_, rfl⟩
        rw [hq] at c3 MK
        cases q
        · go_wp2_with (first
            | (refine step_loadG rfl 32 _ rfl g (o + k * 4) rfl (insL x) _ RG.out Try.underlying32 rfl (infoI _) ?_))
          refine (LK.out _).mono ?_
          rintro e w4 ⟨rfl, b4⟩
          have B4 : Hid (Row 3 w.heap.size w4 u10 xs ∧ Below w.heap.size w w4) := ⟨BB.out.1.later b4, below_trans BB.out.2 b4⟩
          clear b4 BB RG c3 LK
          by_cases hz : gr < z
          · have MK2 : Hid (nI (msN l n t gr (k + 1)) = xs ++ [(k : Int)]) := by show _ = _; rw [MK.out, EG.out]; simp [hz]
            clear MK
            go_wp2_with (at_builtin; refine wpList_push rfl (.tmp 41) (.tmp 43) 30 rfl 3 i0 Try.underlying30 hi hz0 hz1 hz2 w.heap.size w.heap.size w _ _ _ rfl B4.out.1 B4.out.2 (Nat.le_refl _) B4.out.2.size rfl (by omega) ?_; intro v' w5 hown' hnx' hsz')
            go_roundw
            case rel => exact ⟨k + 1, by go_num, by omega, by omega, by rw [MK2.out]; exact hown', hnx'⟩
            case measure => simp [intOf]; omega
          · have MK2 : Hid (nI (msN l n t gr (k + 1)) = xs) := by show _ = _; rw [MK.out, EG.out]; simp [hz]
            clear MK
            go_wp2_with fail
            go_roundw
            case rel => exact ⟨k + 1, by go_num, by omega, by omega, by rw [MK2.out]; exact B4.out.1, B4.out.2⟩
            case measure => simp [intOf]; omega
        · have MK2 : Hid (nI (msN l n t gr (k + 1)) = xs) := by show _ = _; rw [MK.out]; simp
          go_wp2_with fail
          go_roundw
          case rel => exact ⟨k + 1, by go_num, by omega, by omega, by rw [MK2.out]; exact BB.out.1, BB.out.2⟩
          case measure => simp [intOf]; omega
      · obtain rfl : k = L := by omega
        go_wp2_with fail
        go_ret
        exact ⟨_, rfl, BB.out.1, BB.out.2⟩

set_option maxRecDepth 20000 in
set_option maxHeartbeats 2000000 in
theorem rmark_at (l : List Ins) (rows : List Int) (v vr : Value) (w : World) (hl : l.length ≤ 1000000000) (hlr : rows.length ≤ 1000000000) (h : RdP w v l) (hr : Reads w vr rows) :
    Calls Try.prog 15 #[v, vr] w fun e w' => ∃ v', e = .returned v' ∧ RowP w.heap.size w' v' (mkL l rows) ∧ Below w.heap.size w w' := by
  have h' := h
  obtain ⟨ao, cap, rfl, hcap, hno, -⟩ := h
  have CE : Hid (∀ w', Below w.heap.size w w' → ∀ i, i < l.length → ∃ g o, ao = some ⟨g, o, none⟩ ∧ w'.rangeAt g (o + i * 4) (insL (iN l i))) := h'.cells
  have RR : Hid (∀ w', Below w.heap.size w w' → Reads w' vr rows) := fun w' hb => hr.later hb
  have TK : Hid (∀ k, k < l.length → (mkL l rows).take (k + 1) = (mkL l rows).take k ++ [if rows.contains (k : Int) then mk1 (iN l k) else iN l k]) := fun k hk => by
    rw [take_iN (by rw [mkL_len]; exact hk), mkL_at hk]
  have TE : Hid ((mkL l rows).take l.length = mkL l rows) := by show _ = _; rw [List.take_of_length_le (by rw [mkL_len]; exact Nat.le_refl _)]
  have TL : Hid (∀ k, ((mkL l rows).take k).length ≤ k) := fun k => by rw [List.length_take]; omega
  obtain ⟨N, HN⟩ : ∃ N, Hid (rows.length = N) := ⟨_, rfl⟩
  rw [HN.out] at hlr
  have RC : Hid (∀ w', Below w.heap.size w w' → ∀ k, k < N → ∃ a c g o, vr = .slice a N c ∧ a = some ⟨g, o, none⟩ ∧ w'.cell? ⟨g, o + k, none⟩ = some (.int .i64 (rows.getD k 0))) := fun w' hb k hk => by
    rcases RR.out w' hb with ⟨e, _⟩ | ⟨_, g, o, c, e, _, _, hc⟩
    · have := HN.out; rw [e] at this; simp at this; omega
    · exact ⟨_, c, g, o, by rw [← HN.out]; exact e, rfl, hc k (by rw [HN.out]; exact hk)⟩
  have RV : ∃ a c, vr = .slice a N c := by
    rcases hr with ⟨e, a, c, e'⟩ | ⟨_, g, o, c, e, _⟩
    · exact ⟨a, c, by have := HN.out; rw [e] at this; simp at this; rw [← this]; exact e'⟩
    · exact ⟨_, c, by rw [← HN.out]; exact e⟩
  have CT : Hid (∀ (k : Nat) j, j < N → (rows.take (j + 1)).contains (k : Int) = ((rows.take j).contains (k : Int) || ((k : Int) == rows.getD j 0))) := fun k j hj => by
    have hj' : j < rows.length := by rw [HN.out]; exact hj
    rw [List.take_add_one, List.getElem?_eq_getElem hj', Option.toList_some, List.contains_append]
    simp [List.getD_eq_getElem?_getD, List.getElem?_eq_getElem hj']
    rfl
  have CF : Hid (rows.take N = rows) := by show _ = _; rw [List.take_of_length_le (by rw [HN.out]; exact Nat.le_refl _)]
  obtain ⟨ra, rcap, rfl⟩ := RV
  obtain ⟨L, hL⟩ : ∃ L, l.length = L := ⟨_, rfl⟩
  rw [hL] at hcap hl CE TK TE ⊢
  generalize mkL l rows = M at *
  clear h' hL hno RR hr
  go_enter Try.func15, Try.ntmps15
  go_wp2_with fail
  go_loopw [5, 6, 7, 8] (fun vo vk _ _ wr => ∃ k : Nat, vk = .int .i64 (k : Int) ∧ k ≤ L ∧ Hid (RowP w.heap.size wr vo (M.take k) ∧ Below w.heap.size w wr)) (fun _ vk _ _ _ => L - (intOf vk).toNat)
  case atStart => exact ⟨0, rfl, by omega, by rw [List.take_zero]; exact RowP.nil _ _, Below.refl _ _⟩
  case round =>
    obtain ⟨k, rfl, hk, BB⟩ := hrel
    by_cases hlt : (k : Int) < (L : Int)
    · obtain ⟨g, o, rfl, rg⟩ := CE.out wr BB.out.2 k (by omega)
      have RG : Hid (wr.rangeAt g (o + k * 4) (insL (iN l k))) := rg
      have NB : Hid (Blk wr.heap.size 32 [.int .i64 0, .int .i64 0, .int .i64 0, .bool false] (wr.alloc (.cells #[.int .i64 0, .int .i64 0, .int .i64 0, .bool false] 32))) := Blk.new 32 [.int .i64 0, .int .i64 0, .int .i64 0, .bool false] wr
      have BA : Hid (RowP w.heap.size (wr.alloc (.cells #[.int .i64 0, .int .i64 0, .int .i64 0, .bool false] 32)) u5 (M.take k) ∧ Below w.heap.size w (wr.alloc (.cells #[.int .i64 0, .int .i64 0, .int .i64 0, .bool false] 32)) ∧ w.heap.size ≤ wr.heap.size ∧ ∀ g, u5.ownBlock = some g → g ≠ wr.heap.size) := ⟨BB.out.1.later (below_alloc wr _), BB.out.2.alloc BB.out.2.size _, BB.out.2.size, fun g hg => by have := BB.out.1.lt hg; omega⟩
      have tk := TK.out k (by omega)
      have TK1 : Hid _ := tk
      have tl := TL.out k
      clear rg CE TK TE tk BB
      obtain ⟨x, hx⟩ : ∃ x, iN l k = x := ⟨_, rfl⟩
      rw [hx] at RG TK1
      clear hx
      go_wp2_with (first
        | (refine step_load rfl 32 _ rfl g (o + k * 4) rfl (insL x) _ RG.out Try.underlying32 rfl (infoI _) ?_)
        | (refine step_store rfl 32 _ _ rfl wr.heap.size 0 32 [.int .i64 0, .int .i64 0, .int .i64 0, .bool false] (insL x) rfl rfl NB.out (Nat.le_refl _) (infoI _) (oneI _) ?_; intro w2 nb2 g2; have B2 : Hid (Blk wr.heap.size 32 (insL x) w2 ∧ RowP w.heap.size w2 u5 (M.take k) ∧ Below w.heap.size w w2) := ⟨nb2, BA.out.1.kept g2 (fun g hg e => BA.out.2.2.2 g hg (Option.some.inj e).symm), below_row BA.out.2.1 g2 BA.out.2.2.1⟩; have HGE : Hid (w.heap.size ≤ wr.heap.size ∧ ∀ g, u5.ownBlock = some g → g ≠ wr.heap.size) := BA.out.2.2; clear nb2 g2 NB BA RG))
      generalize wr.heap.size = Q at *
      go_loopw [8] (fun vj wr' => ∃ (j : Nat) (y : Ins), vj = .int .i64 (j : Int) ∧ j ≤ N ∧ Hid (y = if (rows.take j).contains (k : Int) then mk1 x else x) ∧ Hid (Blk Q 32 (insL y) wr' ∧ RowP w.heap.size wr' u5 (M.take k) ∧ Below w.heap.size w wr')) (fun vj _ => N - (intOf vj).toNat)
      case atStart => exact ⟨0, x, rfl, by omega, rfl, B2.out⟩
      case round =>
        obtain ⟨j, y, rfl, hj, YE, B3⟩ := hrel
        by_cases hlt2 : (j : Int) < (N : Int)
        · obtain ⟨a', c', g1, o1, e1, e2, cr⟩ := RC.out wr B3.out.2.2 j (by omega)
          injection e1 with e1 _ e3
          subst e1 e3 e2
          have ct := CT.out k j (by omega)
          have CTJ : Hid _ := ct
          clear ct CT RC
          generalize rows.getD j 0 = r at *
          by_cases he : r = (k : Int)
          · have Y2 : Hid (mk1 y = if (rows.take (j + 1)).contains (k : Int) then mk1 x else x) := by
              show _ = _
              rw [CTJ.out, he]
              simp only [BEq.rfl, Bool.or_true, if_true]
              rw [YE.out]; split <;> rfl
            have B4 : Hid (Blk Q 32 (insL (mk1 y)) (wr.setCell ⟨Q, 3, none⟩ (.bool true)) ∧ RowP w.heap.size (wr.setCell ⟨Q, 3, none⟩ (.bool true)) u5 (M.take k) ∧ Below w.heap.size w (wr.setCell ⟨Q, 3, none⟩ (.bool true))) := ⟨B3.out.1.set (i := 3) _, B3.out.2.1.kept (setCell_grown wr Q 3 _) (fun g hg e => HGE.out.2 g hg (Option.some.inj e).symm), below_row B3.out.2.2 (setCell_grown wr Q 3 _) HGE.out.1⟩
            have c3 := B3.out.1.cell 3 _ rfl
            have fz := B3.out.1.fz 3
            have q1 : (r == (k : Int)) = true := by simp [he]
            clear he B3 CTJ YE
            go_wp2_with fail
            go_roundw
            case rel => exact ⟨j + 1, mk1 y, by go_num, by omega, Y2.out, B4.out⟩
            case measure => simp [intOf]; omega
          · have Y2 : Hid (y = if (rows.take (j + 1)).contains (k : Int) then mk1 x else x) := by
              show _ = _
              rw [CTJ.out, show ((k : Int) == r) = false by simp; omega, Bool.or_false]; exact YE.out
            have q1 : (r == (k : Int)) = false := by simp; omega
            clear he CTJ YE
            go_wp2_with fail
            go_roundw
            case rel => exact ⟨j + 1, y, by go_num, by omega, Y2.out, B3.out⟩
            case measure => simp [intOf]; omega
        · obtain rfl : j = N := by omega
          have TK2 : Hid (M.take (k + 1) = M.take k ++ [y]) := by show _ = _; rw [TK1.out, YE.out, CF.out]
          clear TK1 YE CT RC
          obtain ⟨yd, yi, yp, ym⟩ := y
          go_wp2_with (first
            | (refine step_load rfl 32 _ rfl Q 0 rfl [.int .i64 yd, .int .i64 yi, .int .i64 yp, .bool ym] _ B3.out.1.all Try.underlying32 rfl (infoI ⟨yd, yi, yp, ym⟩) ?_)
            | (at_builtin; refine wpList_catP rfl (.tmp 32) (.tmp 34) rfl w.heap.size _ _ _ [⟨yd, yi, yp, ym⟩] rfl (B3.out.2.1.later (below_alloc wr _)) (Nat.le_trans B3.out.2.2.size (below_alloc wr _).size) rfl (RdP.one wr ⟨yd, yi, yp, ym⟩) (by simp only [List.length_cons, List.length_nil]; omega) ?_; intro v5 w5 r5 g5))
          have R5 : Hid (RowP w.heap.size w5 v5 (M.take (k + 1)) ∧ Below w.heap.size w w5) := ⟨by rw [TK2.out]; exact r5, (below_trans B3.out.2.2 (below_alloc wr _)).grown g5 (below_trans B3.out.2.2 (below_alloc wr _)).size (fun b hb => B3.out.2.1.ge hb)⟩
          clear r5 g5 B3
          go_roundw
          case rel => exact ⟨k + 1, by go_num, by omega, R5.out⟩
          case measure => simp [intOf]; omega
    · obtain rfl : k = L := by omega
      have BR := BB.out
      rw [TE.out] at BR
      have BH : Hid _ := BR
      clear BR BB CE TK TE RC
      go_wp2_with fail
      go_ret
      exact ⟨_, rfl, BH.out.1, BH.out.2⟩
end Go.Proofs.Ytekejcpgoijoaab
