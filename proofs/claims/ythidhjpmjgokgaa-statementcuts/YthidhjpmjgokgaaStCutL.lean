/-
  Ours: StatementCuts walked.
-/
import Derived.Test.YthidhjpmjgokgaaStSml
import Derived.Test.YthidhjpmjgokgaaStSam
import Derived.Test.YthidhjpmjgokgaaStCop
import Derived.Test.YthidhjpmjgokgaaStUpL
namespace Go.Proofs.Ythidhjpmjgokgaa
open Go.RowKit LedM StM

/-- Movements of the call's own, cut in front of their mark. -/
theorem cop_front {ms : List (List Int)} {w w1 : World} {e : Ending} (t15 : T14 (ms ++ [mkM])) (h : CopAns ms w e w1) : ∃ g c, e = .returned (.slice (some ⟨g, 0, none⟩) (ms.length + 1) c) ∧ ms.length + 1 ≤ c ∧ RdMo w1 (.slice (some ⟨g, 0, none⟩) ms.length c) ms ∧ Below w.heap.size w w1 := by
  obtain ⟨g, c, rfl, r, b⟩ := h
  have n1 := r.rd t15
  have tm : (ms ++ [mkM]).take ms.length = ms := by rw [List.take_append_of_le_length (Nat.le_refl _), List.take_of_length_le (Nat.le_refl _)]
  have n2 := n1.take (k := ms.length) (by omega)
  rw [tm] at n2
  refine ⟨g, c, rfl, ?_, n2, b⟩
  obtain ⟨_, _, e1, hc1, _⟩ := n1.len
  injection e1 with _ _ e1
  subst e1
  rwa [List.length_append, List.length_singleton] at hc1
theorem stored_below {w w2 w3 : World} {o : Obj} (b : Below w.heap.size w w2) (g3 : (w2.alloc o).grownBy w3 (some w2.heap.size)) : Below w.heap.size w w3 := (b.alloc b.size _).grown g3 (by have := b.size; simp; omega) (fun q e => by cases e; exact b.size)
set_option maxRecDepth 20000 in
set_option maxHeartbeats 8000000 in
theorem cuts_any (ms : List (List Int)) (d t : Int) (v : Value) (w : World) (hd1 : -9223372036854775808 ≤ d ∧ d ≤ 9223372036854775807) (h : RdMo w v ms) (ok : ∀ m ∈ ms, MoOk m) : Calls Try.prog 4 #[v, .int .i64 d, .int .i64 t] w fun e w' => e = .returned (.bool true) ∧ Below w.heap.size w w' := by
  obtain ⟨L, hL⟩ : ∃ L, ms.length = L := ⟨_, rfl⟩
  have RD : Hid (∀ w', Below w.heap.size w w' → RdMo w' v ms) := fun w' hb => h.later hb
  have SM : Hid (Calls Try.prog 9 #[v] w (SmAns ms w)) := small_at ms v w h ok
  have HL : Hid (ms.length = L) := hL
  obtain ⟨ao, cap, e, hcap, hno⟩ := h.len
  subst e
  rw [hL] at hcap RD SM ⊢
  clear h hL
  have OK : Hid (∀ m ∈ ms, MoOk m) := ok
  clear ok
  go_enter Try.func4, Try.ntmps4
  go_wp2_with fail
  refine SM.out.mono ?_
  rintro e w0 ⟨b, rfl, hb, rfl⟩
  clear SM
  cases b with
  | false =>
    clear hb RD OK HL
    go_wp2_with fail
    go_ret
    exact ⟨rfl, Below.refl _ _⟩
  | true =>
  have SMA : Hid (Sm ms) := hb rfl
  clear hb
  by_cases htd : t < d
  · clear RD OK HL SMA
    go_wp2_with fail
    go_ret
    exact ⟨rfl, Below.refl _ _⟩
  by_cases hmx : d = 9223372036854775807
  · clear RD OK HL SMA
    subst hmx
    go_wp2_with fail
    go_ret
    exact ⟨rfl, Below.refl _ _⟩
  have hl : ms.length ≤ 1000 := SMA.out.1
  have t14 : T14 ms := T14.of_ok OK.out
  have T15 : Hid (T14 (ms ++ [mkM])) := t14.app (T14.one rfl)
  have CP : Hid (∀ w', Below w0.heap.size w0 w' → Calls Try.prog 5 #[.slice ao L cap] w' (CopAns ms w')) := fun w' hb => copied_at ms _ w' (RD.out w' hb) t14 (by omega)
  have UP0 : ∀ d v' w', RdMo w' v' ms → Calls Try.prog 6 #[v', .int .i64 d] w' (fun e w2 => e = .returned (.tuple #[.agg (bkL (sumB (upl ms d))).toArray, .bool true]) ∧ Below w'.heap.size w' w2) := fun d v' w' hr => (upto_at ms d v' w' hr OK.out (by omega)).mono fun e w2 hu => by
    unfold UptAns at hu
    rw [up_fits SMA.out d, bookL_fits (up_fits SMA.out d)] at hu
    exact hu
  have UA : Hid (∀ v' w', RdMo w' v' ms → Calls Try.prog 6 #[v', .int .i64 d] w' (fun e w2 => e = .returned (.tuple #[.agg (bkL (sumB (upl ms d))).toArray, .bool true]) ∧ Below w'.heap.size w' w2)) := UP0 d
  have UB : Hid (∀ v' w', RdMo w' v' ms → Calls Try.prog 6 #[v', .int .i64 t] w' (fun e w2 => e = .returned (.tuple #[.agg (bkL (sumB (upl ms t))).toArray, .bool true]) ∧ Below w'.heap.size w' w2)) := UP0 t
  clear UP0
  have WI : Hid (∀ a b v' w', RdMo w' v' ms → Calls Try.prog 10 #[v', .int .i64 a, .int .i64 b] w' (WinAns ms a b w')) := fun a b v' w' hr => within_at ms a b v' w' hr OK.out (by omega)
  have hL10 : L ≤ 1000 := by rw [← HL.out]; exact hl
  have td : d ≤ t := by omega
  have dm : d ≤ 9223372036854775806 := by omega
  have hm2 : (d == 9223372036854775807) = false := by simp; omega
  have CT : Hid (∀ k, k < 12 → (sumB (upl ms d)).getD k 0 + total (wc (win ms (d + 1) t) k) = (sumB (upl ms t)).getD k 0) := fun k hk => cut_at td hk
  have BA : Hid (∀ k, k < 12 → -1000000000000000000 ≤ (sumB (upl ms d)).getD k 0 ∧ (sumB (upl ms d)).getD k 0 ≤ 1000000000000000000) := fun k hk => up_bnd SMA.out d hk
  have BW : Hid (∀ k, k < 12 → ∀ j, -1000000000000000000 ≤ total (wc ((win ms (d + 1) t).take j) k) ∧ total (wc ((win ms (d + 1) t).take j) k) ≤ 1000000000000000000) := fun k hk j => wt_bnd SMA.out _ _ hk j
  have LA : Hid ((sumB (upl ms d)).length = 12) := sumB_len _
  have LB : Hid ((sumB (upl ms t)).length = 12) := sumB_len _
  generalize sumB (upl ms d) = A at *
  generalize sumB (upl ms t) = B at *
  clear t14 hl SMA
  go_wp2_with fail
  refine (CP.out _ (Below.refl _ _)).mono ?_
  intro e w1 hc
  obtain ⟨g1, c1, rfl, hc1, n1, b1⟩ := cop_front T15.out hc
  rw [HL.out] at hc1 n1 ⊢
  have UA : Hid (Calls _ _ _ _ _) := UA.out _ _ n1
  have B1 : Hid (Below w0.heap.size w0 w1) := b1
  clear hc n1 b1
  go_wp2_with fail
  refine UA.out.mono ?_
  rintro e w2 ⟨rfl, b2⟩
  have B2 : Hid (Below w0.heap.size w0 w2) := below_trans B1.out b2
  clear UA b2 B1 hc1
  go_upto_region 4 with (refine step_store rfl 26 _ _ rfl w2.heap.size 0 26 (bkL zeroL) (bkL A) rfl rfl (Blk.new _ (bkL zeroL) w2) (by rw [bkL_len, LA.out]; exact Nat.le_refl _) (infoBl LA.out) (bkL_one _) ?_; intro w3 nb3 g3; rw [store_all (by rw [bkL_len, LA.out]; rfl)] at nb3; have B3 : Hid (Below w0.heap.size w0 w3 ∧ Blk w2.heap.size 26 (bkL A) w3) := ⟨stored_below B2.out g3, nb3⟩; clear nb3 g3)
  generalize w2.heap.size = GA at *
  clear B2
  go_wp2_with fail
  refine (CP.out _ B3.out.1).mono ?_
  intro e w4 hc
  obtain ⟨g4, c4, rfl, hc4, n4, b4⟩ := cop_front T15.out hc
  rw [HL.out] at hc4 n4 ⊢
  have UB : Hid (Calls _ _ _ _ _) := UB.out _ _ n4
  have B4 : Hid (Below w0.heap.size w0 w4 ∧ Blk GA 26 (bkL A) w4) := ⟨below_trans B3.out.1 b4, B3.out.2.below b4⟩
  clear hc n4 b4 B3
  go_wp2_with fail
  refine UB.out.mono ?_
  rintro e w5 ⟨rfl, b5⟩
  have B5 : Hid (Below w0.heap.size w0 w5 ∧ Blk GA 26 (bkL A) w5) := ⟨below_trans B4.out.1 b5, B4.out.2.below b5⟩
  have ga : GA < w5.heap.size := B5.out.2.lt
  clear UB b5 B4 hc4
  go_upto_region 5 with (refine step_store rfl 26 _ _ rfl w5.heap.size 0 26 (bkL zeroL) (bkL B) rfl rfl (Blk.new _ (bkL zeroL) w5) (by rw [bkL_len, LB.out]; exact Nat.le_refl _) (infoBl LB.out) (bkL_one _) ?_; intro w6 nb6 g6; rw [store_all (by rw [bkL_len, LB.out]; rfl)] at nb6; have B6 : Hid (Below w0.heap.size w0 w6 ∧ Blk GA 26 (bkL A) w6 ∧ Blk w5.heap.size 26 (bkL B) w6) := ⟨stored_below B5.out.1 g6, (B5.out.2.old _).grown g6 (fun e => by have := Option.some.inj e; omega), nb6⟩; clear nb6 g6)
  generalize w5.heap.size = GB at *
  clear B5 ga
  go_wp2_with fail
  refine (CP.out _ B6.out.1).mono ?_
  intro e w7 hc
  obtain ⟨g7, c7, rfl, hc7, n7, b7⟩ := cop_front T15.out hc
  rw [HL.out] at hc7 n7 ⊢
  have WI : Hid (Calls _ _ _ _ _) := WI.out (d + 1) t _ _ n7
  have B7 : Hid (Below w0.heap.size w0 w7 ∧ Blk GA 26 (bkL A) w7 ∧ Blk GB 26 (bkL B) w7) := ⟨below_trans B6.out.1 b7, B6.out.2.1.below b7, B6.out.2.2.below b7⟩
  clear hc n7 b7 B6 CP
  go_wp2_with fail
  refine WI.out.mono ?_
  rintro e w8 ⟨vi, rfl, r8, b8⟩
  have B8 : Hid (Below w0.heap.size w0 w8 ∧ Blk GA 26 (bkL A) w8 ∧ Blk GB 26 (bkL B) w8) := ⟨below_trans B7.out.1 b8, B7.out.2.1.below b8, B7.out.2.2.below b8⟩
  clear WI b8 B7 hc7
  have TW : Hid (T14 (win ms (d + 1) t)) := (T14.of_ok OK.out).filter _
  have RW : Hid (RdMo w8 vi (win ms (d + 1) t)) := r8.rd TW.out
  obtain ⟨ai, ci, e8, hci, hni⟩ := RW.out.len
  subst e8
  have CE : Hid (∀ i, i < L → ∃ m, MoOk m ∧ ms[i]? = some m ∧ ∃ g o, ao = some ⟨g, o, none⟩ ∧ ∀ q, (w8.drewN q).rangeAt g (o + i * 14) (bkL m)) := fun i hi => by
    obtain ⟨ao', cap', e, _, _, H⟩ := RD.out w8 B8.out.1
    injection e with e1 e2 e3
    subst e1
    have hm : ms[i]? = some ms[i] := List.getElem?_eq_getElem (by rw [HL.out]; exact hi)
    obtain ⟨g, o, e, _, r⟩ := H i _ hm
    exact ⟨_, OK.out _ (List.mem_of_getElem? hm), hm, g, o, e, fun q => r⟩
  have CI : Hid (∀ n m, (win ms (d + 1) t)[n]? = some m → ∃ g o, ai = some ⟨g, o, none⟩ ∧ ∀ q, (w8.drewN q).rangeAt g (o + n * 14) (bkL m)) := fun n m hm => by
    obtain ⟨ao', cap', e, _, _, H⟩ := RW.out
    injection e with e1 e2 e3
    subst e1
    obtain ⟨g, o, e, _, r⟩ := H n _ hm
    exact ⟨g, o, e, fun q => r⟩
  have NX : Hid (∀ i m, ms[i]? = some m → d + 1 ≤ m.getD 0 0 ∧ m.getD 0 0 ≤ t → (win ms (d + 1) t)[(win (ms.take i) (d + 1) t).length]? = some m ∧ (win (ms.take (i + 1)) (d + 1) t).length = (win (ms.take i) (d + 1) t).length + 1) := fun i m hm hc => win_next hm hc
  have SK : Hid (∀ i m, ms[i]? = some m → ¬ (d + 1 ≤ m.getD 0 0 ∧ m.getD 0 0 ≤ t) → win (ms.take (i + 1)) (d + 1) t = win (ms.take i) (d + 1) t) := fun i m hm hc => win_skip hm hc
  have TL : Hid (ms.take L = ms) := List.take_of_length_le (by rw [HL.out]; exact Nat.le_refl _)
  have WL : Hid (∀ i, i ≤ L → (win (ms.take i) (d + 1) t).length ≤ i) := fun i hi => Nat.le_trans (win_le _ _ _) (by rw [List.length_take]; omega)
  have WN : Hid ((win ms (d + 1) t).length ≤ L) := Nat.le_trans (win_le _ _ _) (by rw [HL.out]; exact Nat.le_refl _)
  obtain ⟨NW, hNW⟩ : ∃ NW, (win ms (d + 1) t).length = NW := ⟨_, rfl⟩
  have HN : Hid ((win ms (d + 1) t).length = NW) := hNW
  have hnw : NW ≤ L := by rw [← hNW]; exact WN.out
  rw [hNW] at hci ⊢
  clear r8 RD hNW WN RW
  go_upto_region 10 with fail
  go_loopw [12, 13] (fun vn vi wr => ∃ i q : Nat, vi = .int .i64 (i : Int) ∧ vn = .int .i64 (((win (ms.take i) (d + 1) t).length : Nat) : Int) ∧ i ≤ L ∧ wr = w8.drewN q) (fun _ vi _ => L - (intOf vi).toNat)
  case atStart => exact ⟨0, 0, rfl, by simp [win], by omega, rfl⟩
  case round =>
    obtain ⟨i, q, rfl, rfl, hi, rfl⟩ := hrel
    by_cases hlt : (i : Int) < (L : Int)
    · obtain ⟨m, mok, hm, g, o, rfl, rg⟩ := CE.out i (by omega)
      have RG : Hid (∀ q, (w8.drewN q).rangeAt g (o + i * 14) (bkL m)) := rg
      have c0 : (w8.drewN q).cell? ⟨g, o + i * 14, none⟩ = some (.int .i64 (m.getD 0 0)) := by have := rg q 0 _ (bkL_at (by rw [mok.1]; omega)); simpa using this
      have EQ : Hid (EqS 34 (bkL m)) := eqs_mo m mok
      have IM : Hid ((Try.prog.info? 34).map (·.size) = some (bkL m).length) := infoMl mok.1
      have wl := WL.out i hi
      clear rg CE mok CT BA BW OK B8
      by_cases x1 : d < m.getD 0 0
      · by_cases x2 : m.getD 0 0 ≤ t
        · obtain ⟨n1, n2⟩ := NX.out i m hm ⟨by omega, x2⟩
          have hnn : (win (ms.take i) (d + 1) t).length < NW := by rw [← HN.out]; exact (List.getElem?_eq_some_iff.1 n1).1
          obtain ⟨g2, o2, rfl, rg2⟩ := CI.out _ _ n1
          have RG2 : Hid (∀ q, (w8.drewN q).rangeAt g2 (o2 + (win (ms.take i) (d + 1) t).length * 14) (bkL m)) := rg2
          have N2 : Hid (_ = _) := n2
          clear rg2 n1 n2 CI NX SK TL WL hm
          generalize (win (ms.take i) (d + 1) t).length = n at *
          generalize m.getD 0 0 = x at *
          have hge : decide ((NW : Int) ≤ (n : Int)) = false := decide_eq_false (by omega)
          have hge2 : decide (NW ≤ n) = false := decide_eq_false (by omega)
          go_wp2_with fail
          refine wp_region_quiet_lit (by kernel_rfl) (by kernel_rfl) ?_
          repeat (first
            | go_big_quiet_skip
            | (go_big_quiet_want; first
              | (refine quiet_loadG 34 _ rfl g (o + i * 14) rfl (bkL m) _ (fun w' hw' => by obtain ⟨n', rfl⟩ := hw'; rw [World.drewN_drewN]; exact RG.out _) Try.underlying34 rfl IM.out ?_; go_big_quiet_on; simp only [Act.put, List.setIfInBounds_toArray, List.set_cons_succ, List.set_cons_zero])
              | (refine quiet_loadG 34 _ rfl g2 (o2 + n * 14) rfl (bkL m) _ (fun w' hw' => by obtain ⟨n', rfl⟩ := hw'; rw [World.drewN_drewN]; exact RG2.out _) Try.underlying34 rfl IM.out ?_; go_big_quiet_on; simp only [Act.put, List.setIfInBounds_toArray, List.set_cons_succ, List.set_cons_zero])
              | (refine quiet_neqS 34 _ _ _ rfl (bkL m) rfl rfl (by kernel_rfl) EQ.out ?_; go_big_quiet_on; simp only [Act.put, List.setIfInBounds_toArray, List.set_cons_succ, List.set_cons_zero])
              | (go_big_quiet_op; go_big_quiet_on)))
          refine wpQuiet_nil ?_
          intro _ hw'
          obtain ⟨nq, hw''⟩ := hw'
          subst hw''
          go_wp2_with fail
          go_roundw
          case rel => exact ⟨i + 1, q + nq, by go_num, by rw [N2.out]; go_num, by omega, rfl⟩
          case measure => simp [intOf]; omega
        · have s1 := SK.out i m hm (fun hh => x2 hh.2)
          have S1 : Hid (_ = _) := s1
          have x2' : decide (m.getD 0 0 ≤ t) = false := decide_eq_false x2
          clear s1 CI NX SK TL WL hm
          generalize (win (ms.take i) (d + 1) t) = n at *
          generalize m.getD 0 0 = x at *
          go_wp2_with fail
          go_roundw
          case rel => exact ⟨i + 1, q, by go_num, by rw [S1.out], by omega, rfl⟩
          case measure => simp [intOf]; omega
      · have s1 := SK.out i m hm (fun hh => x1 (by omega))
        have S1 : Hid (_ = _) := s1
        have x1' : decide (d < m.getD 0 0) = false := decide_eq_false x1
        clear s1 CI NX SK TL WL hm
        generalize (win (ms.take i) (d + 1) t) = n at *
        generalize m.getD 0 0 = x at *
        go_wp2_with fail
        go_roundw
        case rel => exact ⟨i + 1, q, by go_num, by rw [S1.out], by omega, rfl⟩
        case measure => simp [intOf]; omega
    · obtain rfl : i = L := by omega
      have e9 : (win (ms.take i) (d + 1) t).length = NW := by rw [TL.out]; exact HN.out
      rw [e9]
      have B9 : Hid (Below w0.heap.size w0 (w8.drewN q) ∧ Blk GA 26 (bkL A) (w8.drewN q) ∧ Blk GB 26 (bkL B) (w8.drewN q)) := ⟨below_drewN B8.out.1 q, B8.out.2.1, B8.out.2.2⟩
      have CI : Hid (∀ n, n < NW → ∀ j : Nat, j < 12 → ∃ g o, ai = some ⟨g, o, none⟩ ∧ (w8.drewN q).cell? ⟨g, o + n * 14 + 2 + j, none⟩ = some (.int .i64 (total (wc ((win ms (d + 1) t).take (n + 1)) j) - total (wc ((win ms (d + 1) t).take n) j)))) := fun n hn j hj => by
        have hm : (win ms (d + 1) t)[n]? = some ((win ms (d + 1) t)[n]'(by rw [HN.out]; exact hn)) := List.getElem?_eq_getElem (by rw [HN.out]; exact hn)
        obtain ⟨g, o, e, r⟩ := CI.out n _ hm
        have := r q (2 + j) _ (bkL_at (by rw [TW.out _ (List.mem_of_getElem? hm)]; omega))
        have w1 := wc_take (win ms (d + 1) t) j n (by rw [HN.out]; exact hn)
        refine ⟨g, o, e, ?_⟩
        rw [← Nat.add_assoc] at this
        rw [this, w1, show ∀ a b : Int, a + b - a = b from fun a b => by omega]
      have CT : Hid (∀ k, k < 12 → A.getD k 0 + total (wc ((win ms (d + 1) t).take NW) k) = B.getD k 0) := fun k hk => by
        rw [List.take_of_length_le (by rw [HN.out]; exact Nat.le_refl _)]
        exact CT.out k hk
      have Z0 : Hid (∀ k, total (wc ((win ms (d + 1) t).take 0) k) = 0) := fun k => rfl
      clear e9 CE NX SK TL WL HN TW hlt B8 OK
      generalize hT : (fun (n k : Nat) => total (wc ((win ms (d + 1) t).take n) k)) = T at *
      have CI : Hid (∀ n, n < NW → ∀ j : Nat, j < 12 → ∃ g o, ai = some ⟨g, o, none⟩ ∧ (w8.drewN q).cell? ⟨g, o + n * 14 + 2 + j, none⟩ = some (.int .i64 (T (n + 1) j - T n j))) := by subst hT; exact CI
      have CT : Hid (∀ k, k < 12 → A.getD k 0 + T NW k = B.getD k 0) := by subst hT; exact CT
      have BW : Hid (∀ k, k < 12 → ∀ j, -1000000000000000000 ≤ T j k ∧ T j k ≤ 1000000000000000000) := by subst hT; exact BW
      have Z0 : Hid (∀ k, T 0 k = 0) := by subst hT; exact Z0
      clear hT
      generalize w8.drewN q = w9 at *
      go_wp2_with fail
      go_loopw [14, 15, 16] (fun vk _ _ wr => ∃ k : Nat, vk = .int .i64 (k : Int) ∧ k ≤ 12 ∧ Hid (w9 = wr)) (fun vk _ _ _ => 12 - (intOf vk).toNat)
      case atStart => exact ⟨0, rfl, by omega, rfl⟩
      case round =>
        obtain ⟨k, rfl, hk, hw⟩ := hrel
        obtain rfl := hw.out
        clear hw
        by_cases hk2 : (k : Int) < 12
        · have ca := B9.out.2.1.cell k _ (bkL_at (by rw [LA.out]; omega))
          have cb := B9.out.2.2.cell k _ (bkL_at (by rw [LB.out]; omega))
          have ba := BA.out k (by omega)
          have ct := CT.out k (by omega)
          have CA : Hid (w9.cell? ⟨GA, k, none⟩ = some (.int .i64 (A.getD k 0))) := ca
          have CB : Hid (w9.cell? ⟨GB, k, none⟩ = some (.int .i64 (B.getD k 0))) := cb
          have CT' : Hid (_ = _) := ct
          clear ct cb
          generalize A.getD k 0 = a at *
          generalize B.getD k 0 = b at *
          clear CA
          go_wp2_with fail
          clear ca
          go_loopw [15, 16] (fun vs vj wr => ∃ j : Nat, vj = .int .i64 (j : Int) ∧ j ≤ NW ∧ vs = .int .i64 (a + T j k) ∧ Hid (w9 = wr)) (fun _ vj _ => NW - (intOf vj).toNat)
          case atStart => exact ⟨0, rfl, by omega, by rw [Z0.out k]; simp, rfl⟩
          case round =>
            obtain ⟨j, rfl, hj, rfl, hw⟩ := hrel
            obtain rfl := hw.out
            clear hw
            by_cases hj2 : (j : Int) < (NW : Int)
            · obtain ⟨g, o, rfl, cx⟩ := CI.out j (by omega) k (by omega)
              have b1 := BW.out k (by omega) (j + 1)
              have eS : a + T j k + (T (j + 1) k - T j k) = a + T (j + 1) k := by omega
              have ES : Hid (_ = _) := eS
              have s1 : -9223372036854775808 ≤ a + T j k + (T (j + 1) k - T j k) := by omega
              have s2 : a + T j k + (T (j + 1) k - T j k) ≤ 9223372036854775807 := by omega
              generalize (T (j + 1) k - T j k) = y at *
              generalize a + T j k = s0 at *
              clear CI eS b1
              go_wp2_with fail
              go_roundw
              case rel => exact ⟨j + 1, by go_num, by omega, by rw [← ES.out], trivial⟩
              case measure => simp [intOf]; omega
            · obtain rfl : j = NW := by omega
              have e7 : a + T j k = b := CT'.out
              have cb := CB.out
              rw [e7]
              have bb : (b != b) = false := by simp
              clear CI e7
              go_wp2_with fail
              go_roundw
              case rel => exact ⟨k + 1, by go_num, by omega, trivial⟩
              case measure => simp [intOf]; omega
        · obtain rfl : k = 12 := by omega
          have nn : ((NW : Int) == (NW : Int)) = true := by simp
          go_wp2_with fail
          go_ret
          exact ⟨rfl, B9.out.1⟩
end Go.Proofs.Ythidhjpmjgokgaa
