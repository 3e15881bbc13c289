/-
  Ours: slices.Concat of rows of bytes, any number of them.
-/
import Derived.Test.YtdbjjeaflfoppaaWirConc
namespace Go.Proofs.Ytdbjjeaflfoppaa
open Go.RowKit

def lenS (rs : List (List Nat)) : Nat := rs.flatten.length
theorem flat_take {rs : List (List Nat)} {k : Nat} (hk : k < rs.length) : (rs.take (k + 1)).flatten = (rs.take k).flatten ++ rs.getD k [] := by
  have e : rs.take (k + 1) = rs.take k ++ [rs.getD k []] := by
    rw [List.take_add_one, List.getElem?_eq_getElem hk, List.getD_eq_getElem?_getD, List.getElem?_eq_getElem hk]; rfl
  rw [e, List.flatten_append]
  simp
theorem lenS_take {rs : List (List Nat)} {k : Nat} (hk : k < rs.length) : lenS (rs.take (k + 1)) = lenS (rs.take k) + (rs.getD k []).length := by
  unfold lenS
  rw [flat_take hk, List.length_append]
theorem lenS_le (rs : List (List Nat)) (k : Nat) : lenS (rs.take k) ≤ lenS rs := by
  unfold lenS
  have : rs.flatten = (rs.take k).flatten ++ (rs.drop k).flatten := by rw [← List.flatten_append, List.take_append_drop]
  rw [this, List.length_append]
  omega

set_option maxRecDepth 40000 in
set_option maxHeartbeats 2000000 in
theorem concat_at (us : List Value) (rs : List (List Nat)) (v : Value) (w : World) (hr : Rd w v us) (hl : us.length = rs.length) (hl2 : rs.length ≤ 1000) (hu : ∀ i, i < us.length → RdB w (us.getD i .nilFunc) (rs.getD i [])) (ht : lenS rs ≤ 1000000000000) :
    Calls Try.prog 34 #[v] w (NewB w rs.flatten) := by
  obtain ⟨i0, hi, hz0, hz1, hz2⟩ := info_parts infoB
  have RD : Hid (∀ w', Below w.heap.size w w' → ∀ k, k < us.length → (∃ g o, (∃ cap, v = .slice (some ⟨g, o, none⟩) us.length cap) ∧ w'.cell? ⟨g, o + k, none⟩ = some (us.getD k .nilFunc)) ∧ RdB w' (us.getD k .nilFunc) (rs.getD k [])) := fun w' hb k hk => by
    obtain ⟨ao, cap, e, _, _, H⟩ := hr.later hb
    obtain ⟨g, o, rfl, lt, hc⟩ := H k hk
    refine ⟨⟨g, o, ⟨cap, e⟩, ?_⟩, (hu k hk).later hb⟩
    rw [hc, List.getD_eq_getElem?_getD, List.getElem?_eq_getElem hk]; rfl
  obtain ⟨ao, cap, rfl, hcap, -, -⟩ := hr
  have GR : Hid (∀ w', Calls Try.prog 67 #[.slice none 0 0, .int .i64 ((lenS rs : Nat) : Int)] w' fun e w'' => ∃ a' c', e = .returned (.slice a' 0 c') ∧ RowB 5 w'.heap.size w'' (.slice a' 0 c') [] ∧ Below w'.heap.size w' w'') := fun w' =>
    (grow_at (lenS rs) ht w').mono fun e w'' ⟨v1, h1, h2, h4⟩ => by
      obtain ⟨a', c', hv, _, _⟩ := (RowV.rd h2).len
      simp only [List.map_nil, List.length_nil] at hv
      subst hv
      exact ⟨a', c', h1, h2, h4⟩
  rw [hl] at RD hcap ⊢
  have L0 : Hid (lenS (rs.take 0) = 0) := rfl
  have LE : Hid (∀ k, lenS (rs.take k) ≤ 1000000000000) := fun k => Nat.le_trans (lenS_le rs k) ht
  have LS : Hid (∀ k, k < rs.length → lenS (rs.take (k + 1)) = lenS (rs.take k) + (rs.getD k []).length) := fun k hk => lenS_take hk
  have LA : Hid (lenS (rs.take rs.length) = lenS rs) := by show _ = _; rw [List.take_length]
  have FS : Hid (∀ k, k < rs.length → (rs.take (k + 1)).flatten = (rs.take k).flatten ++ rs.getD k []) := fun k hk => flat_take hk
  have FL : Hid (∀ k, (rs.take k).flatten.length = lenS (rs.take k)) := fun k => rfl
  have FA : Hid ((rs.take rs.length).flatten = rs.flatten) := by show _ = _; rw [List.take_length]
  clear hu ht
  generalize rs.length = N at *
  go_enter Try.func34, Try.ntmps34
  go_wp2_with fail
  go_loopw [3, 5, 11] (fun vs _ vk wr => ∃ k : Nat, vk = .int .i64 (k : Int) ∧ k ≤ N ∧ vs = .int .i64 ((lenS (rs.take k) : Nat) : Int) ∧ w = wr) (fun _ _ vk _ => N - (intOf vk).toNat)
  case atStart => exact ⟨0, rfl, by omega, by rw [L0.out]; rfl, rfl⟩
  case round =>
    obtain ⟨k, rfl, hk, rfl, rfl⟩ := hrel
    by_cases hlt : (k : Int) < (N : Int)
    · obtain ⟨⟨g, o, ⟨cap2, ev⟩, hc⟩, hrd⟩ := RD.out _ (Below.refl _ _) k (by omega)
      injection ev with ev1 ev2 ev3
      subst ev1 ev3
      obtain ⟨a1, c1, hv1, -, -⟩ := hrd.len
      rw [List.length_map] at hv1
      rw [hv1] at hc
      have LK := LS.out k (by omega)
      have LB := LE.out (k + 1)
      have LX : Hid (lenS (rs.take (k + 1)) = lenS (rs.take k) + (rs.getD k []).length) := LK
      rw [LK] at LB
      clear LK hv1 hrd
      generalize lenS (rs.take k) = m at *
      generalize (rs.getD k []).length = n at *
      have nn : ¬ ((m : Int) + (n : Int) < 0) := by omega
      go_wp2_with fail
      go_roundw
      case rel => exact ⟨k + 1, by go_num, by omega, by rw [LX.out]; go_num, trivial⟩
      case measure => simp [intOf]; omega
    · obtain rfl : k = N := by omega
      have GR1 : Hid (Calls Try.prog 67 #[.slice none 0 0, .int .i64 ((lenS (rs.take k) : Nat) : Int)] w fun e w'' => ∃ a' c', e = .returned (.slice a' 0 c') ∧ RowB 5 w.heap.size w'' (.slice a' 0 c') [] ∧ Below w.heap.size w w'') := by
        have := GR.out w
        rwa [← LA.out] at this
      go_wp2_with fail
      refine GR1.out.mono ?_
      rintro e w1 ⟨a1, c1, rfl, r1, b1⟩
      have R1 : Hid (RowB 5 w.heap.size w1 (.slice a1 0 c1) [] ∧ Below w.heap.size w w1) := ⟨r1, b1⟩
      clear r1 b1
      go_wp2_with fail
      go_loopw [6, 8, 27] (fun vo _ vk wx => ∃ j : Nat, vk = .int .i64 (j : Int) ∧ j ≤ k ∧ Hid (RowB 5 w.heap.size wx vo (rs.take j).flatten) ∧ Hid (Below w.heap.size w wx)) (fun _ _ vk _ => k - (intOf vk).toNat)
      case atStart => exact ⟨0, rfl, by omega, R1.out.1, R1.out.2⟩
      case round =>
        obtain ⟨j, rfl, hj, RV, BR⟩ := hrel
        have LJ : Hid ((((rs.take j).flatten).map bv).length = lenS (rs.take j)) := by show _ = _; rw [List.length_map]; exact FL.out j
        by_cases hjl : (j : Int) < (k : Int)
        · obtain ⟨⟨g, o, ⟨cap2, ev⟩, hc⟩, hrd⟩ := RD.out _ BR.out j (by omega)
          injection ev with ev1 ev2 ev3
          subst ev1 ev3
          obtain ⟨a2, c2, hv1, -, -⟩ := hrd.len
          rw [List.length_map] at hv1
          rw [hv1] at hc hrd
          have HRD : Hid (RdB wr (.slice a2 (rs.getD j []).length c2) (rs.getD j [])) := hrd
          have FJ : Hid ((rs.take (j + 1)).flatten = (rs.take j).flatten ++ rs.getD j []) := FS.out j (by omega)
          have LB := LE.out (j + 1)
          rw [LS.out j (by omega)] at LB
          have hone := one_bv (rs.getD j [])
          have l1 : (((rs.take j).flatten).map bv).length + ((rs.getD j []).map bv).length ≤ maxLen := by rw [LJ.out, List.length_map]; unfold maxLen; omega
          have l2 : ((((rs.take j).flatten).map bv).length + ((rs.getD j []).map bv).length) * 1 ≤ 140737488355328 := by rw [LJ.out, List.length_map]; omega
          have BS := BR.out.size
          clear hrd hv1 LB
          go_wp2_with (at_builtin; refine wpList_catV rfl (.tmp 31) (.tmp 32) 33 rfl 5 i0 (.int .u8 0) 1 underB hi hz0 hz1 hz2 rfl w.heap.size _ _ _ _ hone rfl RV.out BS rfl HRD.out l1 l2 ?_; intro v' w' rv' gr')
          have B' : Hid (Below w.heap.size w w') := below_grown BR.out RV.out (Nat.le_refl _) BS gr'
          have RV' : Hid (RowB 5 w.heap.size w' v' (rs.take (j + 1)).flatten) := by
            show RowB _ _ _ _ _
            rw [FJ.out, RowB, List.map_append]
            exact rv'
          clear rv' gr'
          go_roundw
          case rel => exact ⟨j + 1, by go_num, by omega, RV'.out, B'.out⟩
          case measure => simp [intOf]; omega
        · obtain rfl : j = k := by omega
          have FX : Hid ((rs.take j).flatten = rs.flatten) := FA.out
          go_wp2_with fail
          go_ret
          exact ⟨_, rfl, by rw [← FX.out]; exact RV.out, BR.out⟩
/-- Rows of bytes in a new block, joined. -/
theorem concatN_at (us : List Value) (rs : List (List Nat)) (w : World) (n : Nat) (hn : n = us.length) (hl : us.length = rs.length) (hl2 : rs.length ≤ 1000) (hu : ∀ i, i < us.length → RdB w (us.getD i .nilFunc) (rs.getD i [])) (ht : lenS rs ≤ 1000000000000) :
    Calls Try.prog 34 #[.slice (some ⟨w.heap.size, 0, none⟩) n n] (w.alloc (.cells us.toArray 33)) (NewB w rs.flatten) := by
  subst hn
  have BA := below_alloc w (.cells us.toArray 33)
  have BL := Blk.new 33 us w
  have R : Rd (w.alloc (.cells us.toArray 33)) (.slice (some ⟨w.heap.size, 0, none⟩) us.length us.length) us := ⟨_, _, rfl, Nat.le_refl _, (fun h => by cases h), fun i hi => ⟨_, 0, rfl, BL.lt, by rw [Nat.zero_add]; exact BL.cell i _ (List.getElem?_eq_getElem hi)⟩⟩
  refine (concat_at us rs _ _ R hl hl2 (fun i hi => (hu i hi).later BA) ht).mono ?_
  rintro e w' ⟨v, e1, r, b⟩
  exact ⟨v, e1, RowV.mono r BA.size, below_trans BA b⟩
end Go.Proofs.Ytdbjjeaflfoppaa
