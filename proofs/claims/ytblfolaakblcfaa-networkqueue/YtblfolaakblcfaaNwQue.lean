/-
  Ours: NetworkQueue.
-/
import Derived.Test.YtblfolaakblcfaaNwTwo
namespace Go.Proofs.Ytblfolaakblcfaa
open Go.RowKit NwM

theorem run_er {t u : Nt} (h : er t = er u) : ∀ k, er (run t k) = er (run u k)
  | 0 => h
  | k + 1 => (er_eq_tick (run_er h k)).1
theorem flyE (t : Nt) (h : t.fl = nt0.fl) : flying t = 0 := by unfold flying; rw [h]; rfl
theorem dl_x : dl 120 = [] := rfl
theorem dl_d : dl 100 = [1, 2] := rfl
theorem dl_n {c : Nat} (h1 : c ≠ 120) (h2 : c ≠ 100) : (dl c).length = 1 := by unfold dl; rw [if_neg h1, if_neg h2]; rfl
def sumQ (ls : List Nat) (i : Nat) : Nat := ((ls.take i).map (fun c => (dl c).length)).sum
theorem sumQ_next {ls : List Nat} {i c : Nat} (h : ls[i]? = some c) : sumQ ls (i + 1) = sumQ ls i + (dl c).length := by
  unfold sumQ
  rw [List.take_add_one, h, List.map_append, List.sum_append]
  simp
theorem sumQ_le (ls : List Nat) (i : Nat) (h : ls.length ≤ 64) : sumQ ls i ≤ 128 := by
  unfold sumQ
  have : ∀ l : List Nat, (l.map (fun c => (dl c).length)).sum ≤ 2 * l.length := fun l => by
    induction l with
    | nil => exact Nat.le_refl _
    | cons x l ih =>
      have := dl_len x
      simp only [List.map_cons, List.sum_cons, List.length_cons]
      omega
  have h1 := this (ls.take i)
  have h2 : (ls.take i).length ≤ ls.length := by rw [List.length_take]; omega
  omega
set_option maxRecDepth 40000 in
set_option maxHeartbeats 8000000 in
theorem queue_out (s : ByteArray) (a : Int) (w : World) (h : s.size = 0 ∨ 64 < s.size ∨ a < 0 ∨ (s.size : Int) < a) :
    Calls Try.prog 4 #[.string s, .int .i64 a] w fun e w' => e = .returned (.bool true) ∧ Below w.heap.size w w' := by
  have HH : Hid (s.size = 0 ∨ 64 < s.size ∨ a < 0 ∨ (s.size : Int) < a) := h
  clear h
  by_cases h1 : s.size = 0
  · have e1 : ((s.size : Int) == 0) = true := by rw [h1]; rfl
    clear h1
    go_enter Try.func4, Try.ntmps4
    go_wp2_with fail
    go_ret
    exact ⟨rfl, Below.refl _ _⟩
  · have e1 : ((s.size : Int) == 0) = false := by rw [beq_eq_false_iff_ne]; omega
    by_cases h2 : 64 < s.size
    · have e2 : decide ((64 : Int) < (s.size : Int)) = true := decide_eq_true (by omega)
      clear h1
      go_enter Try.func4, Try.ntmps4
      go_wp2_with fail
      go_ret
      exact ⟨rfl, Below.refl _ _⟩
    · have e2 : decide ((64 : Int) < (s.size : Int)) = false := decide_eq_false (by omega)
      by_cases h3 : a < 0
      · have e3 : decide (a < 0) = true := decide_eq_true h3
        clear h1 h2
        go_enter Try.func4, Try.ntmps4
        go_wp2_with fail
        go_ret
        exact ⟨rfl, Below.refl _ _⟩
      · have e3 : decide (a < 0) = false := decide_eq_false h3
        have e4 : decide ((s.size : Int) < a) = true := decide_eq_true (by rcases HH.out with q | q | q | q <;> first | exact q | (exfalso; omega))
        clear h1 h2 h3 HH
        go_enter Try.func4, Try.ntmps4
        go_wp2_with fail
        go_ret
        exact ⟨rfl, Below.refl _ _⟩
set_option maxRecDepth 40000 in
set_option maxHeartbeats 8000000 in
theorem queue_bad (s : ByteArray) (A : Nat) (w : World) (h0 : 0 < s.size) (h64 : s.size ≤ 64) (hA : A ≤ s.size) (hF : ¬ ∀ b ∈ bytesOf s, isF b) :
    Calls Try.prog 4 #[.string s, .int .i64 ((A : Nat) : Int)] w fun e w' => e = .returned (.bool true) ∧ Below w.heap.size w w' := by
  have HF : Hid (¬ ∀ b ∈ bytesOf s, isF b) := hF
  clear hF
  have NW : Hid (∀ w, Calls Try.prog 9 #[] w (NewN w)) := new_at
  have HH : Hid (0 < s.size ∧ s.size ≤ 64 ∧ A ≤ s.size) := ⟨h0, h64, hA⟩
  have e1 : ((s.size : Int) == 0) = false := by rw [beq_eq_false_iff_ne]; omega
  have e2 : decide ((64 : Int) < (s.size : Int)) = false := decide_eq_false (by omega)
  have e3 : decide (((A : Nat) : Int) < 0) = false := decide_eq_false (by omega)
  have e4 : decide ((s.size : Int) < ((A : Nat) : Int)) = false := decide_eq_false (by omega)
  have e4n : decide (s.size < A) = false := decide_eq_false (by omega)
  clear h0 hA
  go_enter Try.func4, Try.ntmps4
  go_wp2_with fail
  refine (NW.out w).mono ?_
  intro e w1 h1
  obtain ⟨R, S, rfl, n1⟩ := NO.new h1
  have N1 : Hid (NO w R S (fun _ => False) nt0 w1) := n1
  clear h1 n1
  go_wp2_with fail
  refine (NW.out w1).mono ?_
  intro e w2 h2
  obtain ⟨R2, S2, rfl, n2⟩ := TwoN.new N1.out h2
  have N2 : Hid (TwoN w R S (fun _ => False) nt0 R2 S2 (fun _ => False) nt0 w2) := n2
  clear h2 n2 NW N1
  have ha : allF s = false := by
    cases q : allF s with
    | false => rfl
    | true => exact absurd (allF_each q) HF.out
  have FA : Hid (Calls Try.prog 10 #[.pointer (some ⟨R, 0, none⟩), .string s] w2 fun e w' => e = .returned (.int .i64 160) ∧ ∃ S', NPost R S (fun _ => False) w2 (fateT nt0 s) S' (fun _ => False) w') := by
    have e : fateC nt0 s = 160 := by unfold fateC; rw [if_neg (by omega), if_pos ha]
    have := fate_at R S (fun _ => False) nt0 s w2 N2.out.a.net (by decide)
    rw [e] at this
    exact this
  clear ha
  go_wp2_with fail
  refine FA.out.mono ?_
  rintro e w3 ⟨rfl, S3, p3⟩
  have N3 : Hid (TwoN w R S3 (fun _ => False) (fateT nt0 s) R2 S2 (fun _ => False) nt0 w3) := N2.out.stepA p3
  have FL : Hid (Calls Try.prog 13 #[.pointer (some ⟨R, 0, none⟩)] w3 fun e w' => e = .returned (.int .i64 0) ∧ w3 = w') := by
    have hz : sz (fateT nt0 s) ≤ 1000000000000 := by
      have h1 := (fateT_fl nt0 s).1
      have h2 := (fateT_fl nt0 s).2.1
      unfold sz wt
      rw [h1, h2]
      decide
    have := flying_at R S3 _ _ w3 N3.out.a.net hz
    rw [flyE _ (fateT_fl nt0 s).1] at this
    exact this
  clear FA p3 N2
  go_wp2_with fail
  go_loopw [8] (fun vk wr => ∃ k : Nat, vk = .int .i64 (k : Int) ∧ k ≤ s.size ∧ w3 = wr ∧ Hid (∀ j c, j < k → (bytesOf s)[j]? = some c → isF c)) (fun vk _ => s.size - (intOf vk).toNat)
  case atStart => exact ⟨0, rfl, by omega, rfl, fun j c hj => by omega⟩
  case round =>
    obtain ⟨k, rfl, hk, rfl, FK⟩ := hrel
    by_cases hlt : (k : Int) < (s.size : Int)
    · obtain ⟨c, hc⟩ : ∃ c, (bytesOf s)[k]? = some c := ⟨(bytesOf s)[k]'(by rw [bytesOf_len]; omega), List.getElem?_eq_getElem _⟩
      have ix := index_at s hc
      have HC : Hid ((bytesOf s)[k]? = some c) := hc
      have hks : k < s.size := by omega
      clear hc
      by_cases hFc : isF c
      · have FN : Hid (∀ j c', j < k + 1 → (bytesOf s)[j]? = some c' → isF c') := fun j c' hj hj' => by
          by_cases e : j = k
          · subst e
            rw [HC.out] at hj'
            injection hj' with hj'
            rw [← hj']; exact hFc
          · exact FK.out j c' (by omega) hj'
        rcases hFc with cx | cd | ⟨c1, c2⟩
        · subst cx
          go_wp2_with fail
          go_roundw
          case rel => exact ⟨k + 1, by go_num, by omega, trivial, FN.out⟩
          case measure => simp [intOf]; omega
        · subst cd
          go_wp2_with fail
          go_roundw
          case rel => exact ⟨k + 1, by go_num, by omega, trivial, FN.out⟩
          case measure => simp [intOf]; omega
        · have t1 : (((c : Nat) : Int) != 120) = true := by rw [bne_iff_ne]; omega
          have t2 : (((c : Nat) : Int) != 100) = true := by rw [bne_iff_ne]; omega
          have t3 : decide (((c : Nat) : Int) < 49) = false := decide_eq_false (by omega)
          have t4 : decide ((57 : Int) < ((c : Nat) : Int)) = false := decide_eq_false (by omega)
          have c256 : c ≤ 57 := c2
          clear c1 c2
          go_wp2_with fail
          go_roundw
          case rel => exact ⟨k + 1, by go_num, by omega, trivial, FN.out⟩
          case measure => simp [intOf]; omega
      · have t1 : (((c : Nat) : Int) != 120) = true := by rw [bne_iff_ne]; intro q; exact hFc (.inl (by omega))
        have t2 : (((c : Nat) : Int) != 100) = true := by rw [bne_iff_ne]; intro q; exact hFc (.inr (.inl (by omega)))
        by_cases c1 : ((c : Nat) : Int) < 49
        · have t3 : decide (((c : Nat) : Int) < 49) = true := decide_eq_true c1
          clear hFc c1
          go_wp2_with fail
          refine FL.out.mono ?_
          rintro e _ ⟨rfl, rfl⟩
          go_wp2_with fail
          go_ret
          exact ⟨rfl, N3.out.a.below⟩
        · have t3 : decide (((c : Nat) : Int) < 49) = false := decide_eq_false c1
          have t4 : decide ((57 : Int) < ((c : Nat) : Int)) = true := decide_eq_true (Decidable.byContradiction fun q => hFc (.inr (.inr ⟨by omega, by omega⟩)))
          clear hFc c1
          go_wp2_with fail
          refine FL.out.mono ?_
          rintro e _ ⟨rfl, rfl⟩
          go_wp2_with fail
          go_ret
          exact ⟨rfl, N3.out.a.below⟩
    · exfalso
      refine HF.out (fun b hb => ?_)
      obtain ⟨j, hj, e⟩ := List.getElem_of_mem hb
      exact FK.out j b (by rw [bytesOf_len] at hj; omega) (by rw [List.getElem?_eq_getElem hj, e])
end Go.Proofs.Ytblfolaakblcfaa
