/-
  Ours: aging's Missed, Mark.
-/
import Derived.Test.YtekejcpgoijoaabAgOld
import Derived.Lib.SlBuf
namespace Go.Proofs.Ytekejcpgoijoaab
open Go.RowKit LedM AgM

theorem Try.info3 : (Try.prog.info? 3).map (fun i => (i.zero, i.size, i.bytes)) = some (some (.int .i64 0), 1, 8) := by kernel_rfl

namespace AgM
/-- What Missed tells. -/
def mssL (l : List Ins) (n : Nat) (t g : Int) : List Int := nI (msN (sP l) n t g (sP l).length)
theorem nI_app (a b : List Nat) : nI (a ++ b) = nI a ++ nI b := by simp [nI]
end AgM

set_option maxRecDepth 20000 in
set_option maxHeartbeats 2000000 in
theorem miss_at (l : List Ins) (A R t gr : Int) (n : Nat) (v : Value) (w : World) (hl : l.length ≤ 1000000000) (ok : ∀ x ∈ l, InsOk x) (hA : i64 A) (ht : i64 t) (hn : SatF (sP l) A R n) (h : RdP w v l) :
    Calls Try.prog 11 #[v, .agg #[.int .i64 A, .int .i64 R], .int .i64 t, .int .i64 gr] w fun e w' => ∃ v', e = .returned v' ∧ Row 3 w.heap.size w' v' (mssL l n t gr) ∧ Below w.heap.size w w' := by
  obtain ⟨i0, hi, hz0, hz1, hz2⟩ := info_parts Try.info3
  have BC : Hid (Below w.heap.size w (w.alloc (.cells #[.int .i64 A, .int .i64 R] 24))) := below_alloc w _
  have OL : Hid (∀ w', Below w.heap.size w w' → Calls Try.prog 21 #[v, .agg #[.int .i64 A, .int .i64 R]] w' fun e w2 => e = .returned (.tuple #[.int .i64 (oldK n (sP l).length), .bool (oldB n (sP l).length)]) ∧ Below w'.heap.size w' w2) := fun w' hb => oldest_at l A R n v w' hl ok hA hn (h.later hb)
  have hle := hn.le
  by_cases c : n < (sP l).length
  · have e1 : oldK n (sP l).length = n := by simp [oldK]; omega
    have e2 : oldB n (sP l).length = true := by simp [oldB]; omega
    obtain ⟨hs, hlt, hsp⟩ := old_in c
    have LA : Hid (∀ k, k < l.length → ∀ w, Calls Try.prog 26 #[.agg (insL (iN l k)).toArray, .int .i64 t] w fun e w' => e = .returned (.int .i64 (ltD (iN l k).d t)) ∧ Below w.heap.size w w') := fun k hk w => late_at _ t w (snd_row hs hk).1 ht.2
    rw [e1, e2] at OL
    have em : mssL l n t gr = nI (msN l n t gr l.length) := by unfold mssL; rw [hsp]
    have MS : Hid (∀ k, n ≤ k → nI (msN l n t gr (k + 1)) = nI (msN l n t gr k) ++ (if !(iN l k).m && decide ((if gr < 0 then 0 else gr) < ltD (iN l k).d t) then [(k : Int)] else [])) := fun k hk => by
      rw [msN_succ, nI_app]; congr 1
      unfold isM; rw [decide_eq_true hk, Bool.true_and]
      generalize (!(iN l k).m && decide ((if gr < 0 then 0 else gr) < ltD (iN l k).d t)) = b
      cases b <;> rfl
    have ML : Hid (∀ k, (nI (msN l n t gr k)).length ≤ k) := fun k => by show (List.map _ _).length ≤ _; rw [List.length_map]; exact msN_len l n t gr k
    have M0 : Hid (nI (msN l n t gr n) = []) := by show _ = _; rw [msN_start l n t gr n (Nat.le_refl _)]; rfl
    rw [em]
    have h' := h
    obtain ⟨ao, cap, rfl, -, -, -⟩ := h
    have CE : Hid (∀ w', Below w.heap.size w w' → ∀ i, i < l.length → ∃ g o, ao = some ⟨g, o, none⟩ ∧ w'.rangeAt g (o + i * 4) (insL (iN l i))) := h'.cells
    obtain ⟨L, hL⟩ : ∃ L, l.length = L := ⟨_, rfl⟩
    rw [hL] at hl hlt LA CE OL ⊢
    clear h' hs e1 e2 hn ok hle c hsp em hL
    obtain ⟨G, HG⟩ : ∃ G : Int, Hid ((if gr < 0 then 0 else gr) = G) := ⟨_, rfl⟩
    rw [HG.out] at MS
    go_enter Try.func11, Try.ntmps11
    go_wp2_with fail
    refine (OL.out _ BC.out).mono ?_
    rintro e w2 ⟨rfl, b2⟩
    have B2 : Hid (Below w.heap.size w w2) := below_trans BC.out b2
    clear b2 BC OL
    go_wp2_with fail
    go_loopw [11, 12] (fun vr vk wr => ∃ k : Nat, vk = .int .i64 (k : Int) ∧ n ≤ k ∧ k ≤ L ∧ Hid (Row 3 w.heap.size wr vr (nI (msN l n t gr k)) ∧ Below w.heap.size w wr)) (fun _ vk _ => L - (intOf vk).toNat)
    case atStart => exact ⟨n, rfl, Nat.le_refl _, by omega, by rw [M0.out]; exact Row.nil _ _ _, B2.out⟩
    case round =>
      obtain ⟨k, rfl, hnk, hk, BB⟩ := hrel
      by_cases hlt' : (k : Int) < (L : Int)
      · obtain ⟨g, o, rfl, rg⟩ := CE.out wr BB.out.2 k (by omega)
        have RG : Hid (wr.rangeAt g (o + k * 4) (insL (iN l k))) := rg
        have c3 : wr.cell? ⟨g, o + k * 4 + 3, none⟩ = some (.bool (iN l k).m) := rg 3 _ rfl
        have ms := MS.out k hnk
        have ml := ML.out k
        have LK : Hid _ := LA.out k (by omega)
        clear rg CE LA MS ML
        have MK : Hid (nI (msN l n t gr (k + 1)) = nI (msN l n t gr k) ++ (if !(iN l k).m && decide (G < ltD (iN l k).d t) then [(k : Int)] else [])) := ms
        clear ms
        generalize iN l k = x at *
        generalize nI (msN l n t gr k) = xs at *
        generalize ltD x.d t = z at *
        obtain ⟨q, hq⟩ : ∃ q, x.m = q := ⟨_, rfl⟩
        rw [hq] at c3 MK
        cases q
        · go_wp2_with (first
            | (refine step_loadG rfl 32 _ rfl g (o + k * 4) rfl (insL x) _ RG.out Try.underlying32 rfl (infoI _) ?_))
          refine (LK.out _).mono ?_
          rintro e w3 ⟨rfl, b3⟩
          have B3 : Hid (Row 3 w.heap.size w3 u11 xs ∧ Below w.heap.size w w3) := ⟨BB.out.1.later b3, below_trans BB.out.2 b3⟩
          clear b3 BB RG c3 LK
          by_cases hg : gr < 0
          · have EG : Hid (G = 0) := by show _ = _; rw [← HG.out, if_pos hg]
            by_cases hz : 0 < z
            · have MK2 : Hid (nI (msN l n t gr (k + 1)) = xs ++ [(k : Int)]) := by show _ = _; rw [MK.out, EG.out]; simp [hz]
              clear MK HG EG
              go_wp2_with (at_builtin; refine wpList_push rfl (.tmp 45) (.tmp 47) 30 rfl 3 i0 Try.underlying30 hi hz0 hz1 hz2 w.heap.size w.heap.size w _ _ _ rfl B3.out.1 B3.out.2 (Nat.le_refl _) B3.out.2.size rfl (by omega) ?_; intro v' w4 hown' hnx' hsz')
              go_roundw
              case rel => exact ⟨k + 1, by go_num, by omega, by omega, by rw [MK2.out]; exact hown', hnx'⟩
              case measure => simp [intOf]; omega
            · have MK2 : Hid (nI (msN l n t gr (k + 1)) = xs) := by show _ = _; rw [MK.out, EG.out]; simp [hz]
              clear MK HG EG
              go_wp2_with fail
              go_roundw
              case rel => exact ⟨k + 1, by go_num, by omega, by omega, by rw [MK2.out]; exact B3.out.1, B3.out.2⟩
              case measure => simp [intOf]; omega
          · have EG : Hid (G = gr) := by show _ = _; rw [← HG.out, if_neg hg]
            by_cases hz : gr < z
            · have MK2 : Hid (nI (msN l n t gr (k + 1)) = xs ++ [(k : Int)]) := by show _ = _; rw [MK.out, EG.out]; simp [hz]
              clear MK HG EG
              go_wp2_with (at_builtin; refine wpList_push rfl (.tmp 45) (.tmp 47) 30 rfl 3 i0 Try.underlying30 hi hz0 hz1 hz2 w.heap.size w.heap.size w _ _ _ rfl B3.out.1 B3.out.2 (Nat.le_refl _) B3.out.2.size rfl (by omega) ?_; intro v' w4 hown' hnx' hsz')
              go_roundw
              case rel => exact ⟨k + 1, by go_num, by omega, by omega, by rw [MK2.out]; exact hown', hnx'⟩
              case measure => simp [intOf]; omega
            · have MK2 : Hid (nI (msN l n t gr (k + 1)) = xs) := by show _ = _; rw [MK.out, EG.out]; simp [hz]
              clear MK HG EG
              go_wp2_with fail
              go_roundw
              case rel => exact ⟨k + 1, by go_num, by omega, by omega, by rw [MK2.out]; exact B3.out.1, B3.out.2⟩
              case measure => simp [intOf]; omega
        · have MK2 : Hid (nI (msN l n t gr (k + 1)) = xs) := by show _ = _; rw [MK.out]; simp
          go_wp2_with fail
          go_roundw
          case rel => exact ⟨k + 1, by go_num, by omega, by omega, by rw [MK2.out]; exact BB.out.1, BB.out.2⟩
          case measure => simp [intOf]; omega
      · obtain rfl : k = L := by omega
        go_wp2_with fail
        go_ret
        exact ⟨_, rfl, BB.out.1, BB.out.2⟩
  · have e1 : oldK n (sP l).length = 0 := by simp [oldK]; omega
    have e2 : oldB n (sP l).length = false := by simp [oldB]; omega
    have e0 : mssL l n t gr = [] := by unfold mssL; rw [msN_start _ _ _ _ _ (by omega)]; rfl
    rw [e1, e2] at OL
    rw [e0]
    clear h hn ok
    go_enter Try.func11, Try.ntmps11
    go_wp2_with fail
    refine (OL.out _ BC.out).mono ?_
    rintro e w2 ⟨rfl, b2⟩
    have B2 : Hid (Below w.heap.size w w2) := below_trans BC.out b2
    clear b2 BC OL
    go_wp2_with fail
    go_ret
    exact ⟨_, rfl, Row.nil _ _ _, B2.out⟩

/-! Mark. -/
theorem run_copy_wide {P : Program} (w : World) (dT sT ty elem : TypeId) (g o dLen dCap : Nat) (a : Addr) (sLen sCap size : Nat) (cur : Array Value) (t : TypeId) (cs : List Value)
    (hu : P.underlying dT = some (.slice elem)) (hs : (P.info? elem).map (·.size) = some size)
    (hg : w.heap[g]? = some (.cells cur t (0, 0))) (hn : cs.length = Nat.min sLen dLen * size)
    (hsrc : ∀ j v, cs[j]? = some v → w.cell? (a.add j) = some v) (hfit : o + cs.length ≤ cur.size) (h1 : ∀ v ∈ cs, v.oneCell' = true) :
    (Builtin.copy_ #[dT, sT] ty #[.slice (some ⟨g, o, none⟩) dLen dCap, .slice (some a) sLen sCap]).run P w =
      .ok (goInt (Nat.min sLen dLen)) (w.setRow g (cur.toList.take o ++ cs ++ cur.toList.drop (o + cs.length)).toArray) := by
  have hl := run_loadCells_list (P := P) w a cs hsrc
  have hst := run_storeCells_at P g o t cs 0 cur w hg (by simpa using hfit) h1
  cases hq : P.info? elem with
  | none => simp [hq] at hs
  | some i =>
    have hi : i.size = size := by simpa [hq] using hs
    simp [Builtin.copy_, run_underlying hu, Builtin.lenOf, Builtin.firstCells, sizeOf, typeInfo, hq, hi, ← hn, hl, hst]
namespace AgM
theorem inL_set : ∀ (es : List Ins) (k : Nat) (x : Ins), k < es.length → (inL es).take (k * 4) ++ insL x ++ (inL es).drop (k * 4 + 4) = inL (es.set k x)
  | e :: r, 0, x, _ => by simp [inL, insL]
  | e :: r, k + 1, x, h => by
    have := inL_set r k x (by simpa using h)
    rw [show (k + 1) * 4 = k * 4 + 1 + 1 + 1 + 1 from by omega]
    simpa [inL, insL] using this
theorem inL_mark : ∀ (es : List Ins) (k : Nat), k < es.length → (inL es).set (k * 4 + 3) (.bool true) = inL (es.set k (mk1 (iN es k)))
  | e :: r, 0, _ => by simp [inL, insL, mk1, iN]
  | e :: r, k + 1, h => by
    have := inL_mark r k (by simpa using h)
    rw [show (k + 1) * 4 + 3 = (k * 4 + 3) + 1 + 1 + 1 + 1 from by omega]
    simp only [inL, List.flatMap_cons, insL, List.cons_append, List.nil_append, List.set_cons_succ, iN, List.getD_cons_succ] at this ⊢
    rw [this]
theorem zeros_inL (n : Nat) : (madeCells (Value.agg #[.int .i64 0, .int .i64 0, .int .i64 0, .bool false]).cells (n * 4)).toList.length = n * 4 := by
  simp [madeCells]
end AgM
theorem RowP.of_blk {base g : Nat} {w : World} {es : List Ins} (h : Blk g 32 (inL es) w) (hb : base ≤ g) (hl : es.length ≤ maxLen) : RowP base w (.slice (some ⟨g, 0, none⟩) es.length es.length) es :=
  ⟨inL_len es, .inr ⟨g, es.length, (inL es).toArray, rfl, hb, h, Nat.le_refl _, hl, by simp [inL_len], by simp; exact List.take_of_length_le (by rw [inL_len]; exact Nat.le_refl _)⟩⟩
/-- A block of so many cells. -/
theorem row_blk {base g n s : Nat} {T : TypeId} {w : World} {cs : List Value} (h : w.ownsRow base T s (.slice (some ⟨g, 0, none⟩) n n) n cs) : Blk g T cs w := by
  rcases h.2 with ⟨hv, _⟩ | ⟨g', cap, cur, hv, hb, hg, hn, hm, hcs, htk⟩
  · cases hv
  · injection hv with e1 e2 e3
    injection e1 with e1
    injection e1 with e1 _ _
    subst e1 e3
    unfold Blk
    rw [hg]
    have : cur.toList = cs := by rw [← htk, List.take_of_length_le (by rw [Array.length_toList]; omega)]
    rw [← this]
theorem Rd.reads {w : World} {v : Value} {xs : List Int} (h : Rd w v (xs.map (Value.int .i64))) : Reads w v xs := by
  obtain ⟨ao, cap, rfl, h1, h2, h3⟩ := h
  rw [List.length_map] at *
  by_cases h0 : xs.length = 0
  · have : xs = [] := List.eq_nil_of_length_eq_zero h0
    subst this
    exact .inl ⟨rfl, ao, cap, rfl⟩
  · obtain ⟨g, o, rfl, lt, _⟩ := h3 0 (by rw [List.length_map]; omega)
    refine .inr ⟨by omega, g, o, cap, rfl, h1, lt, fun i hi => ?_⟩
    obtain ⟨g', o', e, _, c⟩ := h3 i (by rw [List.length_map]; exact hi)
    cases e
    rw [c]; simp [List.getD_eq_getElem?_getD, List.getElem?_eq_getElem hi]

set_option maxRecDepth 20000 in
set_option maxHeartbeats 2000000 in
theorem mark_at (l : List Ins) (rows : List Int) (v vr : Value) (w : World) (hl : l.length ≤ 1000000000) (hlr : rows.length ≤ 1000000000) (h : RdP w v l) (hr : Reads w vr rows) :
    Calls Try.prog 20 #[v, vr] w fun e w' => ∃ v', e = .returned v' ∧ RowP w.heap.size w' v' (mkL l rows) ∧ Below w.heap.size w w' := by
  obtain ⟨i0, hi, hz0, hz1, hz2⟩ := info_parts infoI3
  have h' := h
  obtain ⟨ao, cap, rfl, hcap, hno, H⟩ := h
  have RR : Hid (∀ w', Below w.heap.size w w' → Reads w' vr rows) := fun w' hb => hr.later hb
  obtain ⟨L, hL⟩ : ∃ L, l.length = L := ⟨_, rfl⟩
  have HL : Hid (l.length = L) := hL
  have CPY : Hid (∀ w2 cs, Below w.heap.size w w2 → Blk w.heap.size 32 cs w2 → cs.length = L * 4 → ∃ w3, (∀ ty, (Builtin.copy_ #[22, 22] ty #[.slice (some ⟨w.heap.size, 0, none⟩) L L, .slice ao L cap]).run Try.prog w2 = .ok (goInt L) w3) ∧ Blk w.heap.size 32 (inL l) w3 ∧ Below w.heap.size w w3) := fun w2 cs hb bk hc => by
    have hrd := h'.later hb
    obtain ⟨ao', cap', e, _, _, H'⟩ := hrd
    injection e with e1 e2 e3
    subst e1 e3
    cases ao with
    | none =>
      obtain rfl := hno rfl
      have hl0 : l.length = 0 := by omega
      have : L = 0 := by omega
      subst this
      have hl1 : l = [] := List.eq_nil_of_length_eq_zero hl0
      subst hl1
      obtain rfl : cs = [] := List.eq_nil_of_length_eq_zero (by omega)
      exact ⟨w2, fun ty => run_copy_nil (P := Try.prog) w2 _ _ ty 32 _ _ _ Try.underlying22 (by kernel_rfl), bk, hb⟩
    | some ad =>
      have hsrc : ∀ j u, (inL l)[j]? = some u → w2.cell? (ad.add j) = some u := fun j u hj => by
        have hjl : j < l.length * 4 := by have := (List.getElem?_eq_some_iff.1 hj).1; rwa [inL_len] at this
        obtain ⟨g, o, e, _, hcell⟩ := H' (j / 4) (by omega)
        cases e
        have ha := inL_at l (j / 4) (j % 4) (by omega) (by omega)
        rw [show j / 4 * 4 + j % 4 = j by omega, hj] at ha
        have := hcell (j % 4) u ha.symm
        rw [show o + j / 4 * 4 + j % 4 = o + j by omega] at this
        have hadd : (⟨g, o, none⟩ : Addr).add j = ⟨g, o + j, none⟩ := by unfold Addr.add; split <;> simp_all
        rw [hadd]; exact this
      have run := fun ty => run_copy_wide (P := Try.prog) w2 22 22 ty 32 w.heap.size 0 L L ad L cap 4 cs.toArray 32 (inL l) Try.underlying22 (by kernel_rfl) bk (by rw [inL_len, hL]; simp) hsrc (by simp [inL_len]; omega) (inL_one l)
      refine ⟨_, fun ty => by have := run ty; rwa [show Nat.min L L = L from Nat.min_self L] at this, ?_, below_row hb (setRow_grown w2 w.heap.size _) (Nat.le_refl _)⟩
      have := setRow_heap w2 w.heap.size cs.toArray (inL l).toArray 32 (0, 0) bk
      have e : ((cs.toArray.toList.take 0 ++ inL l ++ cs.toArray.toList.drop (0 + (inL l).length)).toArray) = (inL l).toArray := by
        simp; rw [inL_len]; omega
      rw [e]; exact this
  rw [hL] at hcap hl ⊢
  have b2 : i0.bytes * L ≤ 281474976710656 := by rw [hz2]; omega
  have b3 : L ≤ maxLen := by unfold maxLen; omega
  obtain ⟨N, HN⟩ : ∃ N, Hid (rows.length = N) := ⟨_, rfl⟩
  rw [HN.out] at hlr
  have MP : Hid (∀ k, k < N → mkL l (rows.take (k + 1)) = if 0 ≤ rows.getD k 0 ∧ rows.getD k 0 < (L : Int) then (mkL l (rows.take k)).set (rows.getD k 0).toNat (mk1 (iN (mkL l (rows.take k)) (rows.getD k 0).toNat)) else mkL l (rows.take k)) := fun k hk => by
    have hk' : k < rows.length := by rw [HN.out]; exact hk
    rw [List.take_add_one, List.getElem?_eq_getElem hk', Option.toList_some, mkL_push, HL.out]
    simp [List.getD_eq_getElem?_getD, List.getElem?_eq_getElem hk']
  have MLN : Hid (∀ k, (mkL l (rows.take k)).length = L) := fun k => by rw [mkL_len]; exact HL.out
  have RC : Hid (∀ w', Below w.heap.size w w' → ∀ k, k < N → ∃ a c g o, vr = .slice a N c ∧ a = some ⟨g, o, none⟩ ∧ w'.cell? ⟨g, o + k, none⟩ = some (.int .i64 (rows.getD k 0))) := fun w' hb k hk => by
    rcases RR.out w' hb with ⟨e, _⟩ | ⟨_, g, o, c, e, _, _, hc⟩
    · have := HN.out; rw [e] at this; simp at this; omega
    · exact ⟨_, c, g, o, by rw [← HN.out]; exact e, rfl, hc k (by rw [HN.out]; exact hk)⟩
  have RV : ∃ a c, vr = .slice a N c := by
    rcases hr with ⟨e, a, c, e'⟩ | ⟨_, g, o, c, e, _⟩
    · exact ⟨a, c, by have := HN.out; rw [e] at this; simp at this; rw [← this]; exact e'⟩
    · exact ⟨_, c, by rw [← HN.out]; exact e⟩
  obtain ⟨ra, rcap, rfl⟩ := RV
  clear h' H hL RR hr
  go_enter Try.func20, Try.ntmps20
  go_upto_region 2 with (refine wpList_make_full w rfl _ _ 22 rfl w.heap.size 32 i0 _ 4 Try.underlying22 hi hz0 hz1 .i64 .i64 _ _ L rfl rfl rfl rfl b2 b3 (Nat.le_refl _) ?_; intro w2 r2 g2)
  have N2 : Hid (∃ cs, Blk w.heap.size 32 cs w2 ∧ cs.length = L * 4 ∧ Below w.heap.size w w2) := ⟨_, row_blk r2, zeros_inL L, below_none g2⟩
  clear r2 g2
  have X3 : ∃ w3, (∀ ty, (Builtin.copy_ #[22, 22] ty #[.slice (some ⟨w.heap.size, 0, none⟩) L L, .slice ao L cap]).run Try.prog w2 = .ok (goInt L) w3) ∧ Blk w.heap.size 32 (inL l) w3 ∧ Below w.heap.size w w3 := by
    obtain ⟨cs, h1, h2, h3⟩ := N2.out
    exact CPY.out w2 cs h3 h1 h2
  refine Exists.elim X3 (fun w3 hx => ?_)
  have HX : Hid _ := hx
  clear X3 hx N2 CPY
  go_wp2_with (refine Go.Lib.wpList_copy_run _ rfl (.tmp 11) (.tmp 12) 22 22 rfl _ _ rfl rfl (HX.out.1 _) ?_)
  go_loopw [7, 16] (fun _ vk wr => ∃ k : Nat, vk = .int .i64 (k : Int) ∧ k ≤ N ∧ Hid (Blk w.heap.size 32 (inL (mkL l (rows.take k))) wr ∧ Below w.heap.size w wr)) (fun _ vk _ => N - (intOf vk).toNat)
  case atStart => exact ⟨0, rfl, by omega, by rw [List.take_zero, mkL_nil]; exact HX.out.2.1, HX.out.2.2⟩
  case round =>
    obtain ⟨k, rfl, hk, BB⟩ := hrel
    by_cases hlt : (k : Int) < (N : Int)
    · obtain ⟨a', c', g, o, e1, e2, cr⟩ := RC.out wr BB.out.2 k (by omega)
      injection e1 with e1 _ e3
      subst e1 e3 e2
      have mp := MP.out k (by omega)
      have MPK : Hid _ := mp
      have mln := MLN.out k
      clear mp MP RC
      generalize rows.getD k 0 = r at *
      generalize mkL l (rows.take k) = M at *
      by_cases h0 : 0 ≤ r
      · by_cases h1 : r < (L : Int)
        · obtain ⟨m, rfl⟩ : ∃ m : Nat, r = (m : Int) := ⟨r.toNat, by omega⟩
          have hm : m < L := by omega
          have MK2 : Hid (mkL l (rows.take (k + 1)) = M.set m (mk1 (iN M m))) := by show _ = _; rw [MPK.out, if_pos ⟨h0, h1⟩]; rfl
          have BS : Hid (Blk w.heap.size 32 (inL (M.set m (mk1 (iN M m)))) (wr.setCell ⟨w.heap.size, m * 4 + 3, none⟩ (.bool true)) ∧ Below w.heap.size w (wr.setCell ⟨w.heap.size, m * 4 + 3, none⟩ (.bool true))) := ⟨by rw [← inL_mark M m (by omega)]; exact BB.out.1.set _, below_row BB.out.2 (setCell_grown wr _ _ _) (Nat.le_refl _)⟩
          have cm : ∃ u, wr.cell? ⟨w.heap.size, m * 4 + 3, none⟩ = some u := ⟨_, BB.out.1.cell (m * 4 + 3) _ (by rw [inL_at M m 3 (by omega) (by omega)]; rfl)⟩
          obtain ⟨u, cu⟩ := cm
          have fz := BB.out.1.fz (m * 4 + 3)
          have d0 : decide ((0 : Int) ≤ (m : Int)) = true := decide_eq_true h0
          have d1 : decide ((m : Int) < (L : Int)) = true := decide_eq_true h1
          clear MPK BB
          go_wp2_with fail
          go_roundw
          case rel => exact ⟨k + 1, by go_num, by omega, by rw [MK2.out]; exact BS.out⟩
          case measure => simp [intOf]; omega
        · have MK2 : Hid (mkL l (rows.take (k + 1)) = M) := by show _ = _; rw [MPK.out, if_neg (fun h => h1 h.2)]
          have d0 : decide ((0 : Int) ≤ r) = true := decide_eq_true h0
          have d1 : decide (r < (L : Int)) = false := decide_eq_false h1
          clear MPK
          go_wp2_with fail
          go_roundw
          case rel => exact ⟨k + 1, by go_num, by omega, by rw [MK2.out]; exact BB.out⟩
          case measure => simp [intOf]; omega
      · have MK2 : Hid (mkL l (rows.take (k + 1)) = M) := by show _ = _; rw [MPK.out, if_neg (fun h => h0 h.1)]
        have d0 : decide ((0 : Int) ≤ r) = false := decide_eq_false h0
        clear MPK
        go_wp2_with fail
        go_roundw
        case rel => exact ⟨k + 1, by go_num, by omega, by rw [MK2.out]; exact BB.out⟩
        case measure => simp [intOf]; omega
    · obtain rfl : k = N := by omega
      have RF : Hid (RowP w.heap.size wr (.slice (some ⟨w.heap.size, 0, none⟩) L L) (mkL l rows) ∧ Below w.heap.size w wr) := by
        have := BB.out
        rw [List.take_of_length_le (by rw [HN.out]; exact Nat.le_refl _)] at this
        refine ⟨?_, this.2⟩
        have r := RowP.of_blk (base := w.heap.size) this.1 (Nat.le_refl _) (by rw [mkL_len, HL.out]; exact b3)
        rwa [mkL_len, HL.out] at r
      clear BB MP RC MLN
      go_wp2_with fail
      go_ret
      exact ⟨_, rfl, RF.out.1, RF.out.2⟩
end Go.Proofs.Ytekejcpgoijoaab
