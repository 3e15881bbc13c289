/-
  Ours: lockbox.digitOf, doubled, checkDigit, Valid.
-/
import Derived.Test.YtnjpmihffenkcaaDoorProg
import Derived.Test.YtnjpmihffenkcaaDoorWirOwn
import Derived.Test.YtnjpmihffenkcaaDoorLbM
namespace Go.Proofs.YtnjpmihffenkcaaDoor
open Go.RowKit Go.Lib LbM
theorem ret_ib {k : IntKind} {a b : Int} {p q : Bool} (h : a = b) (h' : p = q) : Ending.returned (.tuple #[.int k a, .bool p]) = .returned (.tuple #[.int k b, .bool q]) := by rw [h, h']
theorem ret_bool {a b : Bool} (h : a = b) : Ending.returned (.bool a) = .returned (.bool b) := by rw [h]
theorem digitOf_yes (c : Nat) (w : World) (h : 48 ≤ c ∧ c ≤ 57) : Calls Tryd.prog 71 #[.int .u8 (c : Int)] w fun e w' => e = .returned (.tuple #[.int .i64 ((c - 48 : Nat) : Int), .bool true]) ∧ w = w' := by
  have e1 : decide ((c : Int) < 48) = false := decide_eq_false (by omega)
  have e2 : decide ((c : Int) > 57) = false := decide_eq_false (by omega)
  have e3 : decide (57 < (c : Int)) = false := decide_eq_false (by omega)
  have h1 := h.1
  have h2 := h.2
  go_enter Tryd.func71, Tryd.ntmps71
  go_wp2_with fail
  go_ret2
  exact ⟨ret_ib (by omega) rfl, rfl⟩
theorem digitOf_no (c : Nat) (w : World) (h : ¬ (48 ≤ c ∧ c ≤ 57)) : Calls Tryd.prog 71 #[.int .u8 (c : Int)] w fun e w' => e = .returned (.tuple #[.int .i64 0, .bool false]) ∧ w = w' := by
  by_cases q : (c : Int) < 48
  · go_enter Tryd.func71, Tryd.ntmps71
    go_wp2_with fail
    go_ret2
    exact ⟨rfl, rfl⟩
  · have q2 : 57 < (c : Int) := by omega
    go_enter Tryd.func71, Tryd.ntmps71
    go_wp2_with fail
    go_ret2
    exact ⟨rfl, rfl⟩
theorem doubled_at (d : Nat) (w : World) (h : d ≤ 9) : Calls Tryd.prog 72 #[.int .i64 (d : Int)] w fun e w' => e = .returned (.int .i64 ((dbl d : Nat) : Int)) ∧ w = w' := by
  by_cases q : 4 < (d : Int)
  · go_enter Tryd.func72, Tryd.ntmps72
    go_wp2_with fail
    go_ret
    refine ⟨?_, rfl⟩
    unfold dbl
    rw [if_pos (by omega)]
    have e : ((2 * d - 9 : Nat) : Int) = 2 * (d : Int) - 9 := by omega
    rw [e]
    rfl
  · go_enter Tryd.func72, Tryd.ntmps72
    go_wp2_with fail
    go_ret
    refine ⟨?_, rfl⟩
    unfold dbl
    rw [if_neg (by omega)]
    congr 2
theorem idx_str (T : List UInt8) (i : Nat) (x : Int) (hx : x = (i : Int)) (h : i < T.length) (w : World) : (Instr.index 9 (.string ⟨T.toArray⟩) (.int .i64 x)).run Tryd.prog w = .ok (.int .u8 (((T.getD i 0).toNat : Nat) : Int)) w := by
  subst hx
  have hu : Tryd.prog.underlying 9 = some .string := by kernel_rfl
  have hs : (⟨T.toArray⟩ : ByteArray).size = T.length := rfl
  rw [run_index_string w 9 ⟨T.toArray⟩ .i64 _ hu, dif_pos ⟨by omega, by omega⟩]
  have e : (⟨T.toArray⟩ : ByteArray)[((i : Nat) : Int).toNat]'(by omega) = T.getD i 0 := by
    rw [List.getD_eq_getElem?_getD, List.getElem?_eq_getElem h]
    rfl
  rw [e]
theorem str_to (s : ByteArray) (a : Nat) (h : a ≤ s.size) (W : World) : (Instr.sliceAt 9 (.string s) none (some (.int .i64 ((a : Nat) : Int))) none).run Tryd.prog W = .ok (.string (s.extract 0 a)) W := by
  have hu : Tryd.prog.underlying 9 = some .string := by kernel_rfl
  go_simp
  first | done | (rw [if_pos (by omega)]; simp) | simp
set_option maxRecDepth 20000 in
set_option maxHeartbeats 4000000 in
theorem checkDigit_at (T : List UInt8) (w : World) (hl : T.length ≤ 140737488355328) : Calls Tryd.prog 57 #[.string ⟨T.toArray⟩] w fun e w' => e = .returned (.tuple #[.int .i64 (((if allD T then ckd T else 0) : Nat) : Int), .bool (decide (allD T))]) ∧ w = w' := by
  have hsz : ({ data := T.toArray } : ByteArray).size = T.length := rfl
  have IX : Hid (∀ k, k < T.length → (Instr.index 9 (.string ⟨T.toArray⟩) (.int .i64 ((T.length : Int) - 1 - (k : Int)))).run Tryd.prog w = .ok (.int .u8 (((T.getD (T.length - 1 - k) 0).toNat : Nat) : Int)) w) := fun k hk => idx_str T (T.length - 1 - k) _ (by omega) (by omega) w
  have NO : Hid (∀ k, k < T.length → ¬ (48 ≤ (T.getD (T.length - 1 - k) 0).toNat ∧ (T.getD (T.length - 1 - k) 0).toNat ≤ 57) → ¬ allD T) := fun k hk h => allD_not hk h
  have YES : Hid ((∀ k, k < T.length → 48 ≤ (T.getD (T.length - 1 - k) 0).toNat ∧ (T.getD (T.length - 1 - k) 0).toNat ≤ 57) → allD T) := allD_of
  have CK : Hid (ckd T = (10 - ws 0 (dr T) T.length % 10) % 10) := rfl
  have DR : Hid (∀ k, dr T k = (T.getD (T.length - 1 - k) 0).toNat - 48) := fun k => rfl
  obtain ⟨L, hL⟩ : ∃ L, T.length = L := ⟨_, rfl⟩
  rw [hL] at hl hsz IX NO YES CK DR
  clear hL
  go_enter Tryd.func57, Tryd.ntmps57
  go_wp2_with fail
  go_loopw [4, 10] (fun vs vk wr => ∃ (k s : Nat), wr = w ∧ vk = .int .i64 (k : Int) ∧ k ≤ L ∧ vs = .int .i64 (s : Int) ∧ s ≤ 9 * k ∧ Hid (s = ws 0 (dr T) k) ∧ Hid (∀ j, j < k → 48 ≤ (T.getD (L - 1 - j) 0).toNat ∧ (T.getD (L - 1 - j) 0).toNat ≤ 57)) (fun _ vk _ => L - (intOf vk).toNat)
  case atStart => exact ⟨0, 0, rfl, rfl, by omega, rfl, by omega, rfl, fun j hj => by omega⟩
  case round =>
    obtain ⟨k, s, rfl, rfl, hk, rfl, hs, HS, HD⟩ := hrel
    by_cases hlt : (k : Int) < (L : Int)
    · have ix := IX.out k (by omega)
      have DK := DR.out k
      have no := NO.out k (by omega)
      obtain ⟨c, hcc⟩ : ∃ c, (T.getD (L - 1 - k) 0).toNat = c := ⟨_, rfl⟩
      have HCC : Hid ((T.getD (L - 1 - k) 0).toNat = c) := hcc
      rw [hcc] at ix DK no
      clear hcc
      by_cases hc : 48 ≤ c ∧ c ≤ 57
      · have DG : Hid (Calls Tryd.prog 71 #[.int .u8 (c : Int)] wr fun e w' => e = .returned (.tuple #[.int .i64 ((c - 48 : Nat) : Int), .bool true]) ∧ wr = w') := digitOf_yes c wr hc
        have HC : Hid (48 ≤ c ∧ c ≤ 57 ∧ dr T k = c - 48) := ⟨hc.1, hc.2, DK⟩
        have HD2 : Hid (∀ j, j < k + 1 → 48 ≤ (T.getD (L - 1 - j) 0).toNat ∧ (T.getD (L - 1 - j) 0).toNat ≤ 57) := fun j hj => by
          by_cases e : j = k
          · subst e; rw [HCC.out]; exact hc
          · exact HD.out j (by omega)
        obtain ⟨d, hd⟩ : ∃ d, c - 48 = d := ⟨_, rfl⟩
        have hd9 : d ≤ 9 := by omega
        have DB : Hid (Calls Tryd.prog 72 #[.int .i64 (d : Int)] wr fun e w' => e = .returned (.int .i64 ((dbl d : Nat) : Int)) ∧ wr = w') := doubled_at d wr hd9
        have hb9 : dbl d ≤ 9 := dbl_le hd9
        rw [hd] at DG HC
        have HS2 : Hid (ws 0 (dr T) (k + 1) = s + if k % 2 = 0 then dbl d else d) := by
          show ws 0 (dr T) k + (if (k + 0) % 2 = 0 then dbl (dr T k) else dr T k) = _
          rw [HC.out.2.2, ← HS.out]
          rfl
        clear hc no DK hd HS HD HC HCC
        go_wp2_with fail
        refine DG.out.mono ?_
        rintro e w2 ⟨rfl, rfl⟩
        clear DG
        by_cases hp : k % 2 = 0
        · have hp2 : (((k : Int) % 2) == 0) = true := by simp; omega
          have HS3 : Hid (s + dbl d = ws 0 (dr T) (k + 1)) := by show _ = _; rw [HS2.out, if_pos hp]
          clear HS2 hp
          go_wp2_with fail
          refine DB.out.mono ?_
          rintro e w2 ⟨rfl, rfl⟩
          generalize dbl d = d2 at *
          go_wp2_with fail
          go_roundw
          case rel => exact ⟨k + 1, s + d2, trivial, by go_num, by omega, by go_num, by omega, HS3, HD2⟩
          case measure => simp [intOf]; omega
        · have hp2 : (((k : Int) % 2) == 0) = false := by simp; omega
          have HS3 : Hid (s + d = ws 0 (dr T) (k + 1)) := by show _ = _; rw [HS2.out, if_neg hp]
          clear HS2 hp DB hb9
          go_wp2_with fail
          go_roundw
          case rel => exact ⟨k + 1, s + d, trivial, by go_num, by omega, by go_num, by omega, HS3, HD2⟩
          case measure => simp [intOf]; omega
      · have DG : Hid (Calls Tryd.prog 71 #[.int .u8 (c : Int)] wr fun e w' => e = .returned (.tuple #[.int .i64 0, .bool false]) ∧ wr = w') := digitOf_no c wr hc
        have ND : Hid (¬ allD T) := no hc
        clear hc no DK
        go_wp2_with fail
        refine DG.out.mono ?_
        rintro e w2 ⟨rfl, rfl⟩
        clear DG
        go_wp2_with fail
        go_ret2
        exact ⟨rfl, rfl⟩
    · have AD : Hid (allD T) := YES.out (fun j hj => HD.out j (by omega))
      obtain rfl : k = L := by omega
      have CK2 : Hid (ckd T = (10 - s % 10) % 10) := by show _ = _; rw [CK.out, ← HS.out]
      clear CK HS HD
      go_wp2_with fail
      go_ret2
      refine ⟨?_, rfl⟩
      rw [CK2.out]
      exact ret_ib (show (-((s : Int) % 10)) % 10 = _ by omega) rfl
end Go.Proofs.YtnjpmihffenkcaaDoor
