/-
  Ours: the reference's decimal, weighed, CheckDigit, Valid.
-/
import Derived.Test.YtnjpmihffenkcaaDoorLbCd
import Derived.Test.YtnjpmihffenkcaaDoorLbOwn
import Derived.Test.YtnjpmihffenkcaaDoorLbF
namespace Go.Proofs.YtnjpmihffenkcaaDoor
open Go.RowKit LbM
namespace LbM
theorem rep_set (x m k : Nat) : (List.replicate (m + 1) 48 ++ dgT x k).set m (48 + x / 10 ^ k % 10) = List.replicate m 48 ++ dgT x (k + 1) := by
  have e : List.replicate (m + 1) 48 ++ dgT x k = List.replicate m 48 ++ (48 :: dgT x k) := by rw [List.replicate_succ', List.append_assoc]; rfl
  rw [e, List.set_append_right _ _ (by simp)]
  simp [dgT]
/-- Digits from the last one on. -/
def drN (bs : List Nat) (i : Nat) : Nat := bs.getD (bs.length - 1 - i) 0 - 48
theorem ws_back {b : Nat} {f : Nat → Nat} {L k : Nat} (hk : k < L) : ws b f (L - k) = ws b f (L - (k + 1)) + (if (L - 1 - k + b) % 2 = 0 then dbl (f (L - 1 - k)) else f (L - 1 - k)) := by
  obtain ⟨m, hm⟩ : ∃ m, L - k = m + 1 := ⟨L - k - 1, by omega⟩
  rw [hm, show L - (k + 1) = m by omega, show L - 1 - k = m by omega]
  rfl
theorem w6_is (N : Nat) : ws 0 (drN (dgT N 6)) 6 = w6 N := by
  simp [ws, drN, dgT, w6]
theorem drN_map (T : List UInt8) (i : Nat) : drN (T.map (·.toNat)) i = dr T i := by
  unfold drN dr dv
  rw [List.length_map, List.getD_eq_getElem?_getD, List.getD_eq_getElem?_getD, List.getElem?_map]
  cases T[T.length - 1 - i]? <;> rfl
end LbM
set_option maxRecDepth 20000 in
set_option maxHeartbeats 4000000 in
theorem decimal_at (x n : Nat) (hx : x ≤ 9223372036854775807) (hn : n ≤ 20) (w : World) : Calls Tryd.prog 41 #[.int .i64 (x : Int), .int .i64 (n : Int)] w (NewS w (dgT x n)) := by
  obtain ⟨i0, hi, hz0, hz1, hz2⟩ := info_parts infoB
  go_enter Tryd.func41, Tryd.ntmps41
  go_wp2_with fail
  go_loopw [5, 6] (fun vb vk wr => ∃ (k : Nat) (a : Option Addr) (m c : Nat), vk = .int .i64 (k : Int) ∧ k ≤ n ∧ vb = .slice a m c ∧ Hid (RowB 5 w.heap.size wr (.slice a m c) (List.replicate k 48) ∧ Below w.heap.size w wr)) (fun _ vk _ => n - (intOf vk).toNat)
  case atStart => exact ⟨0, none, 0, 0, rfl, by omega, rfl, ⟨RowV.nil _ _ _, Below.refl _ _⟩⟩
  case round =>
    obtain ⟨k, a, m, c, rfl, hk, rfl, HR⟩ := hrel
    by_cases hlt : (k : Int) < (n : Int)
    · have own1 := HR.out.1
      have hsz1 := HR.out.2.size
      have l1 : ((List.replicate k 48).map bv).length + 1 ≤ maxLen := by rw [List.length_map, List.length_replicate]; unfold maxLen; omega
      have l2 : (((List.replicate k 48).map bv).length + 1) * 1 ≤ 140737488355328 := by rw [List.length_map, List.length_replicate]; omega
      go_wp2_with (at_builtin; refine wpList_pushV rfl (.tmp 13) (.tmp 14) 26 rfl 5 i0 (.int .u8 0) 1 underB hi hz0 hz1 hz2 rfl w.heap.size _ _ _ rfl rfl own1 hsz1 rfl l1 l2 ?_; intro v3 w3 r3 g3)
      have R3 : Hid (RowB 5 w.heap.size w3 v3 (List.replicate (k + 1) 48) ∧ Below w.heap.size w w3) := ⟨by rw [List.replicate_succ']; exact rowB_push r3 rfl, below_grown HR.out.2 own1 (Nat.le_refl _) hsz1 g3⟩
      obtain ⟨a3, c3, rfl, -, -⟩ := (RowV.rd r3).len
      clear r3 g3 own1 HR l1 l2 hsz1
      go_wp2_with fail
      go_roundw
      case rel => exact ⟨k + 1, a3, _, c3, by go_num, by omega, rfl, R3⟩
      case measure => simp [intOf] <;> omega
    · obtain rfl : k = n := by omega
      have HM : Hid (m = k) := by
        obtain ⟨_, _, e, -⟩ := (RowV.rd HR.out.1).len
        injection e with _ e _
        show m = k
        rw [e, List.length_map, List.length_replicate]
      obtain rfl : m = k := HM.out
      clear HM
      go_wp2_with fail
      go_loopw [0, 7] (fun vx vi wr2 => ∃ (j i : Nat), Hid (j + i = m) ∧ vi = .int .i64 ((i : Int) - 1) ∧ i ≤ m ∧ vx = .int .i64 ((x / 10 ^ j : Nat) : Int) ∧ Hid (RowB 5 w.heap.size wr2 (.slice a m c) (List.replicate i 48 ++ dgT x j) ∧ Below w.heap.size w wr2)) (fun _ vi _ => (intOf vi + 1).toNat)
      case atStart => exact ⟨0, m, (by show _ = _; omega), rfl, by omega, by simp, ⟨by simpa [dgT] using HR.out.1, HR.out.2⟩⟩
      case round =>
        clear HR
        obtain ⟨j, i, HJ, rfl, hi2, rfl, HR⟩ := hrel
        by_cases hlt2 : 0 ≤ (i : Int) - 1
        · obtain ⟨q, rfl⟩ : ∃ q, i = q + 1 := ⟨i - 1, by omega⟩
          have hlen : (List.replicate (q + 1) 48 ++ dgT x j).length = m := by rw [List.length_append, List.length_replicate, dgT_len]; have := HJ.out; omega
          obtain ⟨g, cap, e1, hcap, hgb, hgl, HX, hfz⟩ := RowB.own HR.out.1 (by rw [hlen]; omega)
          rw [hlen] at e1 hcap HX
          injection e1 with e1 _ e3
          subst e1 e3
          have PT := RowB.put HR.out.1 q (48 + x / 10 ^ j % 10) hlen
          rw [rep_set] at PT
          have cc := HX q (by omega)
          have fz := hfz q
          have X2 : Hid (x / 10 ^ (j + 1) = x / 10 ^ j / 10) := by show _ = _; rw [Nat.pow_succ, Nat.div_div_eq_div_mul]
          have hXb : x / 10 ^ j ≤ 9223372036854775807 := Nat.le_trans (Nat.div_le_self _ _) hx
          have B2 := HR.out.2
          generalize x / 10 ^ j = X at *
          have R3 : Hid (RowB 5 w.heap.size (wr.setCell ⟨g, q, none⟩ (.int .u8 (48 + (X : Int) % 10))) (.slice (some ⟨g, 0, none⟩) m c) (List.replicate q 48 ++ dgT x (j + 1)) ∧ Below w.heap.size w (wr.setCell ⟨g, q, none⟩ (.int .u8 (48 + (X : Int) % 10)))) := ⟨by rw [show (48 + (X : Int) % 10) = ((48 + X % 10 : Nat) : Int) by omega]; exact PT.1, below_own B2 hgb⟩
          have HJ2 : Hid (j + 1 + q = m) := by show _ = _; have := HJ.out; omega
          clear PT HX hfz hlen HR B2 HJ
          go_wp2_with fail
          go_roundw
          case rel => exact ⟨j + 1, q, HJ2, by go_num, by omega, by rw [X2.out]; go_num, R3⟩
          case measure => simp [intOf] <;> omega
        · obtain rfl : i = 0 := by omega
          have R4 : Hid (RowB 5 w.heap.size wr (.slice a m c) (dgT x m) ∧ Below w.heap.size w wr) := by
            have hj : j = m := by have := HJ.out; omega
            have := HR.out
            rw [hj] at this
            exact this
          clear HR
          go_wp2_with fail
          go_ret
          exact ⟨a, m, c, rfl, R4.out.1, R4.out.2⟩
set_option maxRecDepth 20000 in
set_option maxHeartbeats 4000000 in
theorem weighed_at (bs : List Nat) (first : Bool) (b : Nat) (hb : b = if first then 0 else 1) (v : Value) (w : World) (hl : bs.length ≤ 140737488355328) (h : RdB w v bs) (hd : ∀ z ∈ bs, 48 ≤ z ∧ z ≤ 57) :
    Calls Tryd.prog 42 #[v, .bool first] w fun e w' => e = .returned (.int .i64 ((ws b (drN bs) bs.length : Nat) : Int)) ∧ w = w' := by
  have HBQ : Hid (b = if first then 0 else 1) := hb
  clear hb
  obtain ⟨ao, cap, rfl, hc, hn, H⟩ := h
  simp only [List.length_map] at *
  have HH : Hid (∀ i, i < bs.length → ∃ g o, ao = some ⟨g, o, none⟩ ∧ w.cell? ⟨g, o + i, none⟩ = some (.int .u8 ((bs.getD i 0 : Nat) : Int)) ∧ 48 ≤ bs.getD i 0 ∧ bs.getD i 0 ≤ 57 ∧ drN bs (bs.length - 1 - i) = bs.getD i 0 - 48) := fun i hi => by
    obtain ⟨g, o, e1, e2, e3⟩ := H i (by omega)
    have e4 : bs.getD i 0 = bs[i] := by rw [List.getD_eq_getElem?_getD, List.getElem?_eq_getElem hi]; rfl
    have e5 := hd bs[i] (List.getElem_mem hi)
    refine ⟨g, o, e1, by rw [e3, e4, List.getElem_map]; rfl, by omega, by omega, ?_⟩
    unfold drN
    rw [show bs.length - 1 - (bs.length - 1 - i) = i by omega]
  have HB : Hid (∀ k, k < bs.length → ws b (drN bs) (bs.length - k) = ws b (drN bs) (bs.length - (k + 1)) + (if (bs.length - 1 - k + b) % 2 = 0 then dbl (drN bs (bs.length - 1 - k)) else drN bs (bs.length - 1 - k))) := fun k hk => ws_back hk
  obtain ⟨L, hL⟩ : ∃ L, bs.length = L := ⟨_, rfl⟩
  rw [hL] at hl HH HB hc
  rw [hL]
  generalize drN bs = f at *
  clear H hL hn hd
  go_enter Tryd.func42, Tryd.ntmps42
  go_wp2_with fail
  go_loopw [5, 6] (fun vs vk wr => ∃ (k s : Nat), wr = w ∧ vk = .int .i64 (k : Int) ∧ k ≤ L ∧ vs = .int .i64 (s : Int) ∧ s ≤ 9 * k ∧ Hid (s + ws b f (L - k) = ws b f L)) (fun _ vk _ => L - (intOf vk).toNat)
  case atStart => exact ⟨0, 0, rfl, rfl, by omega, rfl, by omega, by show _ = _; simp⟩
  case round =>
    obtain ⟨k, s, rfl, rfl, hk, rfl, hs, HS⟩ := hrel
    by_cases hlt : (k : Int) < (L : Int)
    · obtain ⟨g, off, rfl, c0, x48, x57, hf⟩ := HH.out k (by omega)
      have hb2 := HB.out k (by omega)
      have hsum := HS.out
      rw [hb2, hf] at hsum
      clear hb2 hf HS
      obtain ⟨x, hx⟩ : ∃ x, bs.getD k 0 = x := ⟨_, rfl⟩
      rw [hx] at c0 x48 x57 hsum
      clear hx
      obtain ⟨d, rfl⟩ : ∃ d, x = 48 + d := ⟨x - 48, by omega⟩
      have hd9 : d ≤ 9 := by omega
      rw [show 48 + d - 48 = d by omega] at hsum
      have HSM := (show Hid _ from hsum)
      clear hsum
      have od := dbl_or (d := d)
      have hb9 := dbl_le hd9
      by_cases hp : (L - 1 - k + b) % 2 = 0
      · have HS2 : Hid (s + dbl d + ws b f (L - (k + 1)) = ws b f L) := by show _ = _; have := HSM.out; rw [if_pos hp] at this; omega
        have hpe : ((((L : Int) - 1 - (k : Int)) % 2 == 0) == first) = true := by
          have hb := HBQ.out
          cases first with
          | true => simp at hb; subst hb; simp; omega
          | false => simp at hb; subst hb; simp; omega
        clear HSM hp
        by_cases q : 9 < 2 * (d : Int)
        · have hdd : dbl d = 2 * d - 9 := by omega
          rw [hdd] at HS2
          clear od hb9 hdd
          go_wp2_with fail
          go_roundw
          case rel => exact ⟨k + 1, s + (2 * d - 9), trivial, by go_num, by omega, by go_num, by omega, by show _ = _; exact HS2.out⟩
          case measure => simp [intOf] <;> omega
        · have hdd : dbl d = 2 * d := by omega
          rw [hdd] at HS2
          clear od hb9 hdd
          go_wp2_with fail
          go_roundw
          case rel => exact ⟨k + 1, s + 2 * d, trivial, by go_num, by omega, by go_num, by omega, by show _ = _; exact HS2.out⟩
          case measure => simp [intOf] <;> omega
      · have HS2 : Hid (s + d + ws b f (L - (k + 1)) = ws b f L) := by show _ = _; have := HSM.out; rw [if_neg hp] at this; omega
        have hpe : ((((L : Int) - 1 - (k : Int)) % 2 == 0) == first) = false := by
          have hb := HBQ.out
          cases first with
          | true => simp at hb; subst hb; simp; omega
          | false => simp at hb; subst hb; simp; omega
        clear HSM hp od hb9
        go_wp2_with fail
        go_roundw
        case rel => exact ⟨k + 1, s + d, trivial, by go_num, by omega, by go_num, by omega, by show _ = _; exact HS2.out⟩
        case measure => simp [intOf] <;> omega
    · obtain rfl : k = L := by omega
      have HS2 : Hid (s = ws b f k) := by show _ = _; have := HS.out; simpa [ws] using this
      clear HS
      go_wp2_with fail
      go_ret
      exact ⟨by rw [HS2.out]; rfl, rfl⟩
set_option maxRecDepth 20000 in
set_option maxHeartbeats 4000000 in
theorem rcheck_at (N : Nat) (h : N ≤ 999999) (w : World) : Calls Tryd.prog 24 #[.int .i64 (N : Int)] w fun e w' => e = .returned (.tuple #[.int .i64 ((cd6 N : Nat) : Int), .bool true]) ∧ Below w.heap.size w w' := by
  have DC : Hid (∀ w, Calls Tryd.prog 41 #[.int .i64 (N : Int), .int .i64 6] w (NewS w (dgT N 6))) := fun w => decimal_at N 6 (by omega) (by omega) w
  have WG : Hid (∀ v w, RdB w v (dgT N 6) → Calls Tryd.prog 42 #[v, .bool true] w fun e w' => e = .returned (.int .i64 ((w6 N : Nat) : Int)) ∧ w = w') := fun v w hr => by
    have := weighed_at (dgT N 6) true 0 rfl v w (by rw [dgT_len]; decide) hr (dgT_b N 6)
    rw [dgT_len, w6_is] at this
    exact this
  have HC : Hid (cd6 N = (10 - w6 N % 10) % 10) := rfl
  have hw : w6 N ≤ 54 := by
    have d1 := dbl_le (d := N % 10) (by omega)
    have d2 := dbl_le (d := N / 100 % 10) (by omega)
    have d3 := dbl_le (d := N / 10000 % 10) (by omega)
    unfold w6
    omega
  generalize w6 N = s at *
  have h1 : ¬ ((N : Int) < 0) := by omega
  have h2 : ¬ (999999 < (N : Int)) := by omega
  go_enter Tryd.func24, Tryd.ntmps24
  go_wp2_with fail
  go_loopw [4] (fun vk wr => ∃ k : Nat, vk = .int .i64 (k : Int) ∧ Hid (k ≤ cd6 N) ∧ k ≤ 9 ∧ Hid (Below w.heap.size w wr)) (fun vk _ => 10 - (intOf vk).toNat)
  case atStart => exact ⟨0, rfl, Nat.zero_le _, by omega, Below.refl _ _⟩
  case round =>
    obtain ⟨k, rfl, HK, hk9, HB⟩ := hrel
    have hlt : (k : Int) < 10 := by omega
    go_wp2_with fail
    refine (DC.out wr).mono ?_
    rintro e w2 ⟨a2, n2, c2, rfl, r2, b2⟩
    have B2 : Hid (Below w.heap.size w w2) := below_trans HB.out b2
    have W2 := WG.out _ _ (RowV.rd r2)
    clear r2 b2 HB
    go_wp2_with fail
    refine W2.mono ?_
    rintro e w3 ⟨rfl, rfl⟩
    clear W2
    by_cases q : ((s : Int) + (k : Int)) % 10 = 0
    · have q2 : (((s : Int) + (k : Int)) % 10 == 0) = true := by simp [q]
      have HE : Hid (k = cd6 N) := by show _ = _; have := HC.out; omega
      clear q
      go_wp2_with fail
      go_ret2
      exact ⟨by rw [← HE.out]; rfl, B2.out⟩
    · have q2 : (((s : Int) + (k : Int)) % 10 == 0) = false := by simp [q]
      have HK2 : k + 1 ≤ cd6 N := by have := HC.out; have := HK.out; omega
      have hk2 : k + 1 ≤ 9 := by have := HC.out; omega
      have HK3 : Hid (k + 1 ≤ cd6 N) := HK2
      clear q HK2
      go_wp2_with fail
      go_roundw
      case rel => exact ⟨k + 1, by go_num, HK3, hk2, B2⟩
      case measure => simp [intOf] <;> omega
theorem rcheck_no (n : Int) (h : ¬ (0 ≤ n ∧ n ≤ 999999)) (w : World) : Calls Tryd.prog 24 #[.int .i64 n] w fun e w' => e = .returned (.tuple #[.int .i64 0, .bool false]) ∧ w = w' := by
  by_cases h1 : n < 0
  · go_enter Tryd.func24, Tryd.ntmps24
    go_wp2_with fail
    go_ret2
    exact ⟨rfl, rfl⟩
  · have h2 : 999999 < n := by omega
    go_enter Tryd.func24, Tryd.ntmps24
    go_wp2_with fail
    go_ret2
    exact ⟨rfl, rfl⟩
end Go.Proofs.YtnjpmihffenkcaaDoor
