/-
  Ours: the program's and the reference's PutInt; the reference's value and Uint.
-/
import Derived.Test.YtdbjjeaflfoppaaWirPut
import Derived.Test.YtdbjjeaflfoppaaWirRSame
namespace Go.Proofs.Ytdbjjeaflfoppaa
open Go.RowKit

set_option maxHeartbeats 1000000 in
theorem putInt_at (y : Int) (h0 : -9223372036854775808 ≤ y) (h1 : y ≤ 9223372036854775807) (w : World) : Calls Try.prog 47 #[.int .i64 y] w (NewB w (putI y)) := by
  have U : Hid (∀ (u : Int), u = (zz y : Int) → ∀ w, Calls Try.prog 35 #[.int .u64 u] w (NewB w (putI y))) := fun u hu w => by
    subst hu; exact putUint_at (zz y) (zz_lt y h0 h1) w
  by_cases hy : y < 0
  · have Z : Hid ((zz y : Int) = -(2 * y) - 1) := by show (zz y : Int) = _; unfold zz; rw [if_neg (by omega)]; omega
    go_enter Try.func47, Try.ntmps47
    go_wp2_with fail
    refine (U.out _ (by have := Z.out; omega) _).mono ?_
    rintro e w1 ⟨v, rfl, r1, b1⟩
    go_wp2_with fail
    go_ret
    exact ⟨_, rfl, r1, b1⟩
  · have Z : Hid ((zz y : Int) = 2 * y) := by show (zz y : Int) = _; unfold zz; rw [if_pos (by omega)]; omega
    go_enter Try.func47, Try.ntmps47
    go_wp2_with fail
    refine (U.out _ (by have := Z.out; omega) _).mono ?_
    rintro e w1 ⟨v, rfl, r1, b1⟩
    go_wp2_with fail
    go_ret
    exact ⟨_, rfl, r1, b1⟩

set_option maxHeartbeats 1000000 in
theorem rputInt_at (y : Int) (h0 : -9223372036854775808 ≤ y) (h1 : y ≤ 9223372036854775807) (w : World) : Calls Try.prog 112 #[.int .i64 y] w (NewB w (putI y)) := by
  have U : Hid (∀ (u : Int), u = (zz y : Int) → ∀ w, Calls Try.prog 113 #[.int .u64 u] w (NewB w (putI y))) := fun u hu w => by
    subst hu; exact rputUint_at (zz y) (zz_lt y h0 h1) w
  by_cases hy : y < 0
  · have Z : Hid ((zz y : Int) = -(2 * y) - 1) := by show (zz y : Int) = _; unfold zz; rw [if_neg (by omega)]; omega
    have d : decide (0 ≤ y) = false := decide_eq_false (by omega)
    go_enter Try.func112, Try.ntmps112
    go_wp2_with fail
    refine (U.out _ (by have := Z.out; omega) _).mono ?_
    rintro e w1 ⟨v, rfl, r1, b1⟩
    go_wp2_with fail
    go_ret
    exact ⟨_, rfl, r1, b1⟩
  · have Z : Hid ((zz y : Int) = 2 * y) := by show (zz y : Int) = _; unfold zz; rw [if_pos (by omega)]; omega
    have d : decide (0 ≤ y) = true := decide_eq_true (by omega)
    go_enter Try.func112, Try.ntmps112
    go_wp2_with fail
    refine (U.out _ (by have := Z.out; omega) _).mono ?_
    rintro e w1 ⟨v, rfl, r1, b1⟩
    go_wp2_with fail
    go_ret
    exact ⟨_, rfl, r1, b1⟩

theorem val_drop (bs : List Nat) (k : Nat) (h : k < bs.length) : val (bs.drop k) = bs.getD k 0 % 128 + 128 * val (bs.drop (k + 1)) := by
  rw [List.drop_eq_getElem_cons h, val, List.getD_eq_getElem?_getD, List.getElem?_eq_getElem h]; rfl

set_option maxHeartbeats 1000000 in
theorem value_at (bs : List Nat) (hl : bs.length ≤ 10) (v : Value) (w : World) (hb : ∀ c ∈ bs, c < 256) (h : RdB w v bs) :
    Calls Try.prog 130 #[v] w fun e w' => e = .returned (.int .u64 ((val bs % 18446744073709551616 : Nat) : Int)) ∧ w' = w := by
  obtain ⟨ao, cap, rfl, hc, hn, H⟩ := h
  simp only [List.length_map] at *
  obtain ⟨L, hL⟩ : ∃ L, bs.length = L := ⟨_, rfl⟩
  have HH : Hid (∀ i (h : i < L), ∃ g o, ao = some ⟨g, o, none⟩ ∧ w.cell? ⟨g, o + i, none⟩ = some (.int .u8 (bs.getD i 0 : Nat)) ∧ bs.getD i 0 < 256) := fun i hi => by
    obtain ⟨g, o, e1, _, e2⟩ := H i (by omega)
    refine ⟨g, o, e1, ?_, ?_⟩
    · rw [e2, List.getElem_map, List.getD_eq_getElem?_getD, List.getElem?_eq_getElem (by omega)]; rfl
    · rw [List.getD_eq_getElem?_getD, List.getElem?_eq_getElem (by omega)]; exact hb _ (List.getElem_mem _)
  have HL : Hid (bs.length = L) := hL
  rw [hL] at hl
  rw [hL]
  clear H hL hc hn hb
  go_enter Try.func130, Try.ntmps130
  go_wp2_with fail
  go_loopw [3, 4] (fun vx vk wr => wr = w ∧ ∃ (k x : Nat), vk = .int .i64 ((k : Int) - 1) ∧ k ≤ L ∧ vx = .int .u64 (x : Int) ∧ x < 18446744073709551616 ∧ Hid (x = val (bs.drop k) % 18446744073709551616)) (fun _ vk _ => (intOf vk + 1).toNat)
  case atStart => exact ⟨rfl, L, 0, by go_num, Nat.le_refl _, rfl, by omega, by show 0 = _; rw [List.drop_of_length_le (by rw [HL.out]; exact Nat.le_refl _)]; rfl⟩
  case round =>
    obtain ⟨rfl, k, x, rfl, hk, rfl, hx, EQ⟩ := hrel
    by_cases hlt : 0 < k
    · obtain ⟨j, rfl⟩ : ∃ j, k = j + 1 := ⟨k - 1, by omega⟩
      have ej : ((j + 1 : Nat) : Int) - 1 = (j : Int) := by omega
      rw [ej]
      obtain ⟨g, off, rfl, c0, cb⟩ := HH.out j (by omega)
      have EX : Hid (val (bs.drop j) = bs.getD j 0 % 128 + 128 * val (bs.drop (j + 1))) := val_drop bs j (by rw [HL.out]; omega)
      generalize bs.getD j 0 = c at *
      go_wp2_with fail
      go_roundw
      case rel =>
        refine ⟨trivial, j, (x * 128 + c % 128) % 18446744073709551616, by first | rfl | go_num, by omega, ?_, ?_, ?_⟩
        · rw [IntKind.wrap_u64, IntKind.wrap_u64]; congr 1; omega
        · omega
        · show _ = _; rw [EX.out, EQ.out]; omega
      case measure => simp [intOf]
    · obtain rfl : k = 0 := by omega
      go_wp2_with fail
      go_ret
      refine ⟨?_, rfl⟩
      have := EQ.out
      rw [List.drop_zero] at this
      rw [← this]; rfl

/-- What a reader of numbers answers. -/
def rdAns (r : Option (Nat × Nat)) : Ending := match r with
  | some (v, n) => .returned (.tuple #[.int .u64 (v : Int), .int .i64 (n : Int), .bool true])
  | none => .returned (.tuple #[.int .u64 0, .int .i64 0, .bool false])

theorem Rd.sub {w : World} {g o n cap k m : Nat} {vs : List Value} (h : Rd w (.slice (some ⟨g, o, none⟩) n cap) vs) (hk : k + m ≤ n) (hc : k + m ≤ cap) : Rd w (.slice (some ⟨g, o + k, none⟩) m (cap - k)) ((vs.drop k).take m) := by
  obtain ⟨ao, cap', e, h1, h2, h3⟩ := h
  cases e
  have hl : ((vs.drop k).take m).length = m := by simp; omega
  refine ⟨some ⟨g, o + k, none⟩, cap - k, by rw [hl], by omega, (fun h => by cases h), fun i hi => ?_⟩
  obtain ⟨g', o', e1, lt, e2⟩ := h3 (k + i) (by omega)
  cases e1
  refine ⟨g, o + k, rfl, lt, ?_⟩
  rw [Nat.add_assoc, e2]
  simp

theorem RdB.sub {w : World} {g o n cap k m : Nat} {bs : List Nat} (h : RdB w (.slice (some ⟨g, o, none⟩) n cap) bs) (hk : k + m ≤ n) (hc : n ≤ cap) : RdB w (.slice (some ⟨g, o + k, none⟩) m (cap - k)) ((bs.drop k).take m) := by
  have := Rd.sub (k := k) (m := m) h hk (by omega)
  simpa [RdB, List.map_take, List.map_drop] using this
theorem Rd.addr {w : World} {ao : Option Addr} {n cap : Nat} {vs : List Value} (h : Rd w (.slice ao n cap) vs) (h0 : 0 < n) : ∃ g o, ao = some ⟨g, o, none⟩ ∧ g < w.heap.size := by
  obtain ⟨ao', cap', e, _, _, h3⟩ := h
  cases e
  obtain ⟨g, o, e, lt, _⟩ := h3 0 h0
  exact ⟨g, o, e, lt⟩

set_option maxHeartbeats 2000000 in
theorem ruint_at (bs : List Nat) (p : Int) (v : Value) (w : World) (hb : ∀ c ∈ bs, c < 256) (hl : bs.length ≤ 140737488355328) (p0 : -9223372036854775808 ≤ p) (p1 : p ≤ 9223372036854775807) (h : RdB w v bs) :
    Calls Try.prog 121 #[v, .int .i64 p] w fun e w' => e = rdAns (rd bs p) ∧ Below w.heap.size w w' := by
  obtain ⟨L, hL⟩ : ∃ L, bs.length = L := ⟨_, rfl⟩
  have HL : Hid (bs.length = L) := hL
  obtain ⟨ao, cap, rfl, hcap, hn⟩ := h.len
  rw [List.length_map, hL] at hcap h ⊢
  rw [hL] at hl
  by_cases hp : p < 0
  · have e : rd bs p = none := by unfold rd; rw [if_neg (by omega)]
    rw [e]
    go_enter Try.func121, Try.ntmps121
    go_wp2_with fail
    go_ret3
    exact ⟨rfl, Below.refl _ _⟩
  · have d1 : decide (p < 0) = false := decide_eq_false hp
    by_cases hp2 : (L : Int) < p
    · have e : rd bs p = none := by unfold rd; rw [if_neg (by omega)]
      rw [e]
      go_enter Try.func121, Try.ntmps121
      go_wp2_with fail
      go_ret3
      exact ⟨rfl, Below.refl _ _⟩
    · obtain ⟨k, rfl⟩ := Int.eq_ofNat_of_zero_le (show 0 ≤ p by omega)
      have hk : k ≤ L := by omega
      have dA : decide ((k : Int) < 0) = false := decide_eq_false (by omega)
      have dB : decide (L < k) = false := decide_eq_false (by omega)
      clear hp hp2 d1 p0 p1
      go_enter Try.func121, Try.ntmps121
      go_wp2_with fail
      go_loopw [7] (fun vk wr => ∃ (n : Nat), vk = .int .i64 (n : Int) ∧ 1 ≤ n ∧ n ≤ 11 ∧ Below w.heap.size w wr ∧ Hid (∀ v m, rd bs k = some (v, m) → k + n ≤ m)) (fun vk _ => 11 - (intOf vk).toNat)
      case atStart =>
        refine ⟨1, rfl, by omega, by omega, Below.refl _ _, fun v m hv => ?_⟩
        have := rd_le bs k v m hb hv
        omega
      case round =>
        obtain ⟨n, rfl, n1, n11, hbw, HN⟩ := hrel
        have RI : Hid (∀ v m, rd bs (k : Nat) = some (v, m) ↔ ∃ r, bs.drop k = put v ++ r ∧ m = k + (put v).length ∧ v < 18446744073709551616) := fun v m => rd_iff bs k v m hb (by omega)
        by_cases c1 : (n : Int) ≤ 10
        · by_cases c2 : (n : Int) ≤ (L : Int) - (k : Int)
          · obtain ⟨g, o, rfl, lt⟩ := h.addr (by omega)
            have V : Hid (∀ w', Below w.heap.size w w' → RdB w' (.slice (some ⟨g, o + k, none⟩) n (cap - k)) ((bs.drop k).take n)) := fun w' hb' => RdB.sub (Rd.later h hb') (by omega) hcap
            have hlt : ((bs.drop k).take n).length = n := by have := HL.out; simp; omega
            have HT : Hid (((bs.drop k).take n).length = n) := hlt
            have hby : Hid (∀ c ∈ (bs.drop k).take n, c < 256) := fun c hc => hb c (List.mem_of_mem_drop (List.mem_of_mem_take hc))
            have HX : Hid ((bs.drop k).take n ++ (bs.drop k).drop n = bs.drop k) := List.take_append_drop n (bs.drop k)
            generalize (bs.drop k).take n = cs at *
            clear hb hlt h
            go_wp2_with fail
            refine (value_at cs (by rw [HT.out]; omega) _ _ hby.out (V.out _ hbw)).mono ?_
            rintro e w1 ⟨rfl, hw⟩; rw [hw]; clear hw w1
            have VL : Hid (∀ v : Nat, cs = put v → val cs % 18446744073709551616 = v ∨ ¬ v < 18446744073709551616) := fun v hv => by rw [hv, val_put]; omega
            obtain ⟨x, hx⟩ : ∃ x, val cs % 18446744073709551616 = x := ⟨_, rfl⟩
            have hx1 : x < 18446744073709551616 := by omega
            rw [hx] at VL ⊢
            clear hx
            go_wp2_with fail
            refine (rputUint_at x hx1 _).mono ?_
            rintro e w1 ⟨v1, rfl, r1, b1⟩
            have bb1 : Below w.heap.size w w1 := hbw.trans (b1.mono hbw.size)
            have R1 : Hid (RdB w1 v1 (put x)) := r1.rd
            clear r1 b1
            go_wp2_with fail
            refine (rsame_at (put x) cs _ _ _ (by have := put_len10 x hx1; omega) R1.out (V.out _ bb1)).mono ?_
            rintro e w2 ⟨rfl, nq, hw⟩; rw [hw]; clear hw w2 R1
            have bb2 : Below w.heap.size w (w1.drewN nq) := below_drewN bb1 nq
            generalize w1.drewN nq = W2 at *
            by_cases ee : put x = cs
            · rw [decide_eq_true ee]
              have AN : Hid (rd bs k = some (x, k + n)) := (RI.out _ _).2 ⟨_, by rw [ee]; exact HX.out.symm, by rw [ee, HT.out], hx1⟩
              clear ee
              go_wp2_with fail
              go_ret3
              refine ⟨?_, bb2⟩
              rw [AN.out]; rfl
            · rw [decide_eq_false ee]
              have NN : Hid (∀ v m, rd bs k = some (v, m) → k + (n + 1) ≤ m) := fun v m hv => by
                have h1 := HN.out v m hv
                obtain ⟨r, q1, q2, q3⟩ := (RI.out v m).1 hv
                apply Classical.byContradiction; intro hcon
                have hm : (put v).length = n := by omega
                have q4 := HX.out
                rw [q1] at q4
                have q5 : cs = put v := (List.append_inj q4 (by rw [HT.out, hm])).1
                rcases VL.out v q5 with q6 | q6
                · exact ee (by rw [q6, q5])
                · exact q6 q3
              clear ee
              go_wp2_with fail
              go_roundw
              case rel => exact ⟨n + 1, by go_num, by omega, by omega, bb2, NN⟩
              case measure => simp [intOf]; omega
          · have AN : Hid (rd bs k = none) := by
              cases hr : rd bs k with
              | none => rfl
              | some q =>
                have h1 := HN.out q.1 q.2 hr
                have h2 := rd_le bs k q.1 q.2 hb hr
                have := HL.out
                omega
            have d2 : decide ((n : Int) ≤ (L : Int) - (k : Int)) = false := decide_eq_false c2
            go_wp2_with fail
            go_ret3
            refine ⟨?_, hbw⟩
            rw [AN.out]; rfl
        · have AN : Hid (rd bs k = none) := by
            cases hr : rd bs k with
            | none => rfl
            | some q =>
              have h1 := HN.out q.1 q.2 hr
              obtain ⟨r, q1, q2, q3⟩ := (RI.out q.1 q.2).1 hr
              have := put_len10 _ q3
              omega
          have d2 : decide ((n : Int) ≤ 10) = false := decide_eq_false c1
          go_wp2_with fail
          go_ret3
          refine ⟨?_, hbw⟩
          rw [AN.out]; rfl
end Go.Proofs.Ytdbjjeaflfoppaa
