/-
  Ours: into, whole, rising; the policy that is made: pure, and the first three calls.
-/
import Derived.Test.YtcjmjbhbdojeiaaPolOwn
namespace Go.Proofs.Ytcjmjbhbdojeiaa
open Go.RowKit LedM PolM

namespace PolM
def inV (x lo hi : Int) : Int := if lo ≤ x ∧ x ≤ hi then x else lo + x % (hi - lo + 1)
theorem inV_in {x lo hi : Int} (h : lo ≤ hi) : lo ≤ inV x lo hi ∧ inV x lo hi ≤ hi := by
  unfold inV
  split
  · assumption
  · have h1 := Int.emod_nonneg x (show hi - lo + 1 ≠ 0 by omega)
    have h2 := Int.emod_lt_of_pos x (show 0 < hi - lo + 1 by omega)
    omega
theorem inV_same {x lo hi : Int} (h : lo ≤ x ∧ x ≤ hi) : inV x lo hi = x := if_pos h
theorem rem_up {x n : Int} (hn : 0 < n) : (Int.tmod x n < 0 → Int.tmod x n + n = x % n) ∧ (¬ Int.tmod x n < 0 → Int.tmod x n = x % n) ∧ -n < Int.tmod x n ∧ Int.tmod x n < n := by
  have h1 := Int.emod_nonneg x (show n ≠ 0 by omega)
  have h2 := Int.emod_lt_of_pos x hn
  rcases Int.lt_or_le x 0 with hx | hx
  · have e := Int.tmod_eq_emod (a := x) (b := n)
    rw [e]
    split <;> omega
  · rw [Int.tmod_eq_emod_of_nonneg hx]
    omega
def risL (last : Int) : Nat → List Int → List Int
  | 0, _ => []
  | _ + 1, [] => []
  | n + 1, d :: r => if last < d ∧ d ≤ 3652059 then d :: risL d n r else risL last (n + 1) r
theorem risL_nil (last : Int) (n : Nat) : risL last n [] = [] := by cases n <;> rfl
theorem risL_len : ∀ (hs : List Int) (last : Int) (n : Nat), (risL last n hs).length ≤ n
  | _, _, 0 => by simp [risL]
  | [], _, n + 1 => by simp [risL]
  | d :: r, last, n + 1 => by
    rw [risL]
    split
    · have := risL_len r d n; simp; omega
    · exact risL_len r last (n + 1)
theorem risL_ris : ∀ (hs : List Int) (last : Int) (n : Nat), ris last (risL last n hs) = true
  | _, _, 0 => by simp [risL, ris]
  | [], _, n + 1 => by simp [risL, ris]
  | d :: r, last, n + 1 => by
    rw [risL]
    split
    · rename_i h; rw [ris, decide_eq_true h, risL_ris r d n]; rfl
    · exact risL_ris r last (n + 1)
theorem hol_ris (hs : List Int) : hol (risL 0 64 hs) = true := by
  rw [hol, decide_eq_true (risL_len hs 0 64), risL_ris]; rfl
theorem risL_cons {last d : Int} {n : Nat} {r : List Int} (hn : 0 < n) : risL last n (d :: r) = if last < d ∧ d ≤ 3652059 then d :: risL d (n - 1) r else risL last n r := by
  obtain ⟨m, rfl⟩ : ∃ m, n = m + 1 := ⟨n - 1, by omega⟩
  rfl
end PolM

set_option maxHeartbeats 1000000 in
theorem into_at (x lo hi : Int) (w : World) (l0 : 0 ≤ lo) (lh : lo ≤ hi) (h1 : hi ≤ 1000000000) (hx : i64 x) : Calls Try.prog 26 #[.int .i64 x, .int .i64 lo, .int .i64 hi] w fun e w' => e = .returned (.int .i64 (inV x lo hi)) ∧ w' = w := by
  have IV : Hid (inV x lo hi = if lo ≤ x ∧ x ≤ hi then x else lo + x % (hi - lo + 1)) := rfl
  generalize inV x lo hi = V at *
  by_cases ha : lo ≤ x
  · by_cases hb : x ≤ hi
    · obtain rfl : V = x := by rw [IV.out, if_pos ⟨ha, hb⟩]
      go_enter Try.func26, Try.ntmps26
      go_wp2_with fail
      go_ret
      exact ⟨rfl, rfl⟩
    · have E : Hid (V = lo + x % (hi - lo + 1)) := by show _ = _; rw [IV.out, if_neg (fun h => hb h.2)]
      have nz : ¬ hi - lo + 1 = 0 := by omega
      have q1 := Int.emod_nonneg x nz
      have q2 := Int.emod_lt_of_pos x (show 0 < hi - lo + 1 by omega)
      go_enter Try.func26, Try.ntmps26
      go_wp2_with fail
      go_ret
      exact ⟨by rw [E.out]; rfl, rfl⟩
  · have E : Hid (V = lo + x % (hi - lo + 1)) := by show _ = _; rw [IV.out, if_neg (fun h => ha h.1)]
    have nz : ¬ hi - lo + 1 = 0 := by omega
    by_cases h0 : 0 ≤ x
    · have q1 := Int.emod_nonneg x nz
      have q2 := Int.emod_lt_of_pos x (show 0 < hi - lo + 1 by omega)
      go_enter Try.func26, Try.ntmps26
      go_wp2_with fail
      go_ret
      exact ⟨by rw [E.out]; rfl, rfl⟩
    · obtain ⟨x1, x2⟩ := hx
      have RU := rem_up (x := x) (show 0 < hi - lo + 1 by omega)
      obtain ⟨r1, r2, r3, r4⟩ := RU
      have R1 : Hid (x.tmod (hi - lo + 1) < 0 → x.tmod (hi - lo + 1) + (hi - lo + 1) = x % (hi - lo + 1)) := r1
      have R2 : Hid (¬ x.tmod (hi - lo + 1) < 0 → x.tmod (hi - lo + 1) = x % (hi - lo + 1)) := r2
      clear r1 r2
      by_cases ht : x.tmod (hi - lo + 1) < 0
      · have F : Hid (V = lo + (x.tmod (hi - lo + 1) + (hi - lo + 1))) := by show _ = _; rw [E.out, ← R1.out ht]
        go_enter Try.func26, Try.ntmps26
        go_wp2_with fail
        go_ret
        exact ⟨by rw [F.out]; rfl, rfl⟩
      · have F : Hid (V = lo + x.tmod (hi - lo + 1)) := by show _ = _; rw [E.out, ← R2.out ht]
        go_enter Try.func26, Try.ntmps26
        go_wp2_with fail
        go_ret
        exact ⟨by rw [F.out]; rfl, rfl⟩
theorem whole_at (x lo hi : Int) (w : World) (l0 : 0 ≤ lo) (lh : lo ≤ hi) (h1 : hi ≤ 1000000000) (hx : i64 x) : Calls Try.prog 25 #[.int .i64 x, .int .i64 lo, .int .i64 hi] w fun e w' => e = .returned (.int .i64 (inV x lo hi)) ∧ w' = w := by
  have IA : Hid (∀ w, Calls Try.prog 26 #[.int .i64 x, .int .i64 lo, .int .i64 hi] w fun e w' => e = .returned (.int .i64 (inV x lo hi)) ∧ w' = w) := fun w => into_at x lo hi w l0 lh h1 hx
  generalize inV x lo hi = V at *
  go_enter Try.func25, Try.ntmps25
  go_wp2_with fail
  refine (IA.out _).mono ?_
  rintro e w' ⟨rfl, rfl⟩
  go_wp2_with fail
  go_ret
  exact ⟨rfl, rfl⟩

set_option maxRecDepth 20000 in
set_option maxHeartbeats 2000000 in
theorem rising_at (hs : List Int) (s : Value) (w : World) (hr : Rd w s (bkL hs)) (hb : hs.length ≤ 1000000) (ok : ∀ k, i64 (hs.getD k 0)) :
    Calls Try.prog 27 #[s] w fun e w' => ∃ v, e = .returned v ∧ RowV 3 w.heap.size w' v (bkL (risL 0 64 hs)) ∧ Below w.heap.size w w' := by
  have iv := infoV
  cases hq : Try.prog.info? 3 with
  | none => simp [hq] at iv
  | some i =>
  simp [hq] at iv
  obtain ⟨i1, i2, i3⟩ := iv
  have hi := hq
  have RD : Hid (∀ w', Below w.heap.size w w' → Rd w' s (bkL hs)) := fun w' hb' => hr.later hb'
  obtain ⟨ao, cap, rfl, hc, hn, -⟩ := hr
  have CE : Hid (∀ w', Below w.heap.size w w' → ∀ k, k < hs.length → ∃ g o, ao = some ⟨g, o, none⟩ ∧ w'.cell? ⟨g, o + k, none⟩ = some (.int .i64 (hs.getD k 0))) := fun w' hb' k hk => by
    obtain ⟨ao', cap', e, _, _, H⟩ := RD.out w' hb'
    injection e with e1 _ _
    subst e1
    obtain ⟨g, o, e, _, c⟩ := rd_cells H k hk
    exact ⟨g, o, e, c⟩
  clear RD
  rw [bkL_len]
  have DK : Hid (∀ k, k < hs.length → hs.drop k = hs.getD k 0 :: hs.drop (k + 1)) := fun k hk => by
    rw [List.drop_eq_getElem_cons hk, List.getD_eq_getElem?_getD, List.getElem?_eq_getElem hk]; rfl
  have DE : Hid (hs.drop hs.length = []) := List.drop_length
  have D0 : Hid (hs.drop 0 = hs) := rfl
  have OK : Hid (∀ k, i64 (hs.getD k 0)) := ok
  generalize hL : hs.length = L at *
  obtain ⟨R, HR⟩ : ∃ R, Hid (risL 0 64 hs = R) := ⟨_, rfl⟩
  rw [HR.out]
  clear hc hn hL hq ok
  go_enter Try.func27, Try.ntmps27
  go_wp2_with fail
  go_loopw [3, 4, 5] (fun vo vl vk wr => ∃ (k : Nat) (acc : List Int) (last : Int) (ad : Option Addr) (A cp : Nat), vk = .int .i64 (k : Int) ∧ k ≤ L ∧ vl = .int .i64 last ∧ vo = .slice ad A cp ∧ A ≤ 64 ∧ Hid (acc.length = A) ∧ Hid (acc ++ risL last (64 - A) (hs.drop k) = R) ∧ Hid (RowV 3 w.heap.size wr (.slice ad A cp) (bkL acc)) ∧ Hid (Below w.heap.size w wr)) (fun _ _ vk _ => L - (intOf vk).toNat)
  case atStart => exact ⟨0, [], 0, none, 0, 0, rfl, by omega, rfl, rfl, by omega, rfl, by show _ = _; rw [D0.out]; exact HR.out, World.ownsRow_nil _ _ _ _, Below.refl _ _⟩
  case round =>
    obtain ⟨k, acc, last, ad, A, cp, rfl, hk, rfl, rfl, hA, LA, EQ, RV, BR⟩ := hrel
    have LB : Hid ((bkL acc).length = A) := by show _ = _; rw [bkL_len]; exact LA.out
    by_cases hlt : (k : Int) < (L : Int)
    · by_cases h64 : (A : Int) < 64
      · obtain ⟨g, o, rfl, c0⟩ := CE.out wr BR.out k (by omega)
        have EC : Hid (acc ++ (if last < hs.getD k 0 ∧ hs.getD k 0 ≤ 3652059 then hs.getD k 0 :: risL (hs.getD k 0) (64 - A - 1) (hs.drop (k + 1)) else risL last (64 - A) (hs.drop (k + 1))) = R) := by
          have := EQ.out
          rw [DK.out k (by omega), risL_cons (by omega)] at this
          exact this
        generalize hd : hs.getD k 0 = d at *
        have HD : Hid (hs.getD k 0 = d) := hd
        clear hd
        have NO : Hid (¬ (last < d ∧ d ≤ 3652059) → acc ++ risL last (64 - A) (hs.drop (k + 1)) = R) := fun h => by have := EC.out; rwa [if_neg h] at this
        by_cases h1 : last < d
        · by_cases h2 : d ≤ 3652059
          · have EN : Hid ((acc ++ [d]) ++ risL d (64 - (A + 1)) (hs.drop (k + 1)) = R) := by
              have := EC.out
              rw [if_pos ⟨h1, h2⟩] at this
              show _ = _
              rw [List.append_assoc]; exact this
            go_upto_region 8 with (at_builtin; refine wpList_pushV rfl (.tmp 30) (.tmp 35) 22 rfl 3 i (.int .i64 0) 8 Try.underlying22 hi i1 i2 i3 rfl w.heap.size _ (bkL acc) (.int .i64 d) rfl rfl RV.out BR.out.size rfl (by have := LB.out; unfold maxLen; omega) (by have := LB.out; omega) ?_; intro v' w' rv' gr')
            have B' : Hid (Below w.heap.size w w') := below_grown BR.out RV.out (Nat.le_refl _) BR.out.size gr'
            have LC : Hid ((acc ++ [d]).length = A + 1) := by show _ = _; rw [List.length_append, LA.out]; rfl
            have EB : Hid (bkL acc ++ [.int .i64 d] = bkL (acc ++ [d])) := by show _ = _; simp [bkL]
            rw [EB.out] at rv'
            have LD : Hid ((bkL (acc ++ [d])).length = A + 1) := by show _ = _; rw [bkL_len]; exact LC.out
            obtain ⟨g2, cp2, rfl, -, -, -⟩ := rowV_some rv' (by rw [LD.out]; omega)
            rw [LD.out]
            have RV' : Hid (RowV 3 w.heap.size w' (.slice (some ⟨g2, 0, none⟩) (A + 1) cp2) (bkL (acc ++ [d]))) := by show RowV _ _ _ _ _; rw [LD.out] at rv'; exact rv'
            clear rv' gr' c0
            obtain ⟨g3, o3, e3, c3⟩ := CE.out w' B'.out k (by omega)
            injection e3 with e3
            injection e3 with e4 e5
            subst e4 e5
            rw [HD.out] at c3
            go_wp2_with fail
            go_roundw
            case rel => exact ⟨k + 1, acc ++ [d], d, some ⟨g2, 0, none⟩, A + 1, cp2, by go_num, by omega, rfl, rfl, by omega, LC.out, EN.out, RV'.out, B'.out⟩
            case measure => simp [intOf]; omega
          · have EN : Hid (acc ++ risL last (64 - A) (hs.drop (k + 1)) = R) := NO.out (fun h => h2 h.2)
            go_wp2_with fail
            go_roundw
            case rel => exact ⟨k + 1, acc, last, ad, A, cp, by go_num, by omega, rfl, rfl, by omega, LA.out, EN.out, RV.out, BR.out⟩
            case measure => simp [intOf]; omega
        · have EN : Hid (acc ++ risL last (64 - A) (hs.drop (k + 1)) = R) := NO.out (fun h => h1 h.1)
          go_wp2_with fail
          go_roundw
          case rel => exact ⟨k + 1, acc, last, ad, A, cp, by go_num, by omega, rfl, rfl, by omega, LA.out, EN.out, RV.out, BR.out⟩
          case measure => simp [intOf]; omega
      · have EN : Hid (acc = R) := by
          have := EQ.out
          rw [show 64 - A = 0 by omega] at this
          show _ = _
          simpa [risL] using this
        go_wp2_with fail
        go_ret
        exact ⟨_, rfl, by rw [← EN.out]; exact RV.out, BR.out⟩
    · obtain rfl : k = L := by omega
      have EN : Hid (acc = R) := by
        have := EQ.out
        rw [DE.out, risL_nil, List.append_nil] at this
        exact this
      go_wp2_with fail
      go_ret
      exact ⟨_, rfl, by rw [← EN.out]; exact RV.out, BR.out⟩
end Go.Proofs.Ytcjmjbhbdojeiaa
