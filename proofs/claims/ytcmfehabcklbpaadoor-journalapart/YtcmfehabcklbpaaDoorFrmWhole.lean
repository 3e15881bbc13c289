/-
  Ours: frame.whole.
-/
import Derived.Test.YtcmfehabcklbpaaDoorFrmWord
import Derived.Deep.QuietTactic
import Derived.BigQuiet
namespace Go.Proofs.YtcmfehabcklbpaaDoor
open Go.RowKit

theorem Rd.tail {w : World} {ao : Option Addr} {n c : Nat} {vs : List Value} (h : Rd w (.slice ao n c) vs) {k : Nat} (hk : k ≤ n) {ad : Option Addr} (ha : ∀ g o, ao = some ⟨g, o, none⟩ → k < n → ad = some ⟨g, o + k, none⟩) (hn : ad = none → c - k = 0) : Rd w (.slice ad (n - k) (c - k)) (vs.drop k) := by
  obtain ⟨ao', c', e, h1, h2, H⟩ := h
  injection e with e1 e2 e3
  subst e1 e2 e3
  have hl : (vs.drop k).length = vs.length - k := List.length_drop ..
  refine ⟨ad, c - k, by rw [hl], by omega, hn, fun i hi => ?_⟩
  rw [hl] at hi
  obtain ⟨g, o, e1, lt, e2⟩ := H (k + i) (by omega)
  refine ⟨g, o + k, ha g o e1 (by omega), lt, ?_⟩
  rw [Nat.add_assoc, e2]
  simp

theorem whole_0 {l : List Nat} (h : l.length = 0) : CrcM.whole l = (0, 0) := by unfold CrcM.whole; rw [if_pos h]
theorem whole_1 {l : List Nat} (h0 : l.length ≠ 0) (h : l.length < 4) : CrcM.whole l = (0, 1) := by unfold CrcM.whole; rw [if_neg h0, if_pos h]
theorem whole_2 {l : List Nat} (h0 : 4 ≤ l.length) (h : 4194304 < CrcM.num (l.take 4)) : CrcM.whole l = (0, 2) := by unfold CrcM.whole; rw [if_neg (by omega), if_neg (by omega), if_pos h]
theorem whole_3 {l : List Nat} (h0 : 4 ≤ l.length) (h1 : ¬ 4194304 < CrcM.num (l.take 4)) (h : l.length < CrcM.num (l.take 4) + 8) : CrcM.whole l = (0, 1) := by unfold CrcM.whole; rw [if_neg (by omega), if_neg (by omega), if_neg h1, if_pos h]
theorem whole_4 {l : List Nat} (h0 : 4 ≤ l.length) (h1 : ¬ 4194304 < CrcM.num (l.take 4)) (h2 : ¬ l.length < CrcM.num (l.take 4) + 8) (h : CrcM.num ((l.drop (CrcM.num (l.take 4) + 4)).take 4) ≠ CrcM.sum (l.take (CrcM.num (l.take 4) + 4))) : CrcM.whole l = (0, 3) := by
  unfold CrcM.whole; rw [if_neg (by omega), if_neg (by omega), if_neg h1, if_neg h2, if_neg h]
theorem whole_5 {l : List Nat} (h0 : 4 ≤ l.length) (h1 : ¬ 4194304 < CrcM.num (l.take 4)) (h2 : ¬ l.length < CrcM.num (l.take 4) + 8) (h : CrcM.num ((l.drop (CrcM.num (l.take 4) + 4)).take 4) = CrcM.sum (l.take (CrcM.num (l.take 4) + 4))) : CrcM.whole l = (CrcM.num (l.take 4) + 8, 0) := by
  unfold CrcM.whole; rw [if_neg (by omega), if_neg (by omega), if_neg h1, if_neg h2, if_pos h]

def WholeIs (bs : List Nat) (w : World) (e : Ending) (w' : World) : Prop := e = .returned (.tuple #[.int .i64 (((CrcM.whole bs).1 : Nat) : Int), .int .i64 (((CrcM.whole bs).2 : Nat) : Int)]) ∧ ∃ n, w' = w.drewN n

set_option maxHeartbeats 1000000 in
theorem whole_at (bs : List Nat) (v : Value) (w : World) (hb : ∀ b ∈ bs, b < 256) (hl : bs.length ≤ 1000000000000) (h : RdB w v bs) (hT : TabS w) :
    Calls Tryd.prog 58 #[v] w (WholeIs bs w) := by
  obtain ⟨ao, cap, rfl, hcap, hnil⟩ := h.len
  have hl0 : (bs.map bv).length = bs.length := List.length_map ..
  rw [hl0] at h hcap ⊢
  unfold WholeIs
  by_cases h0 : bs.length = 0
  · rw [whole_0 h0]
    have g1 : ((bs.length : Int) == 0) = true := beq_iff_eq.2 (by omega)
    generalize bs.length = L at *
    clear h hb hT
    go_enter Tryd.func58, Tryd.ntmps58
    go_wp2_with fail
    go_ret2
    exact ⟨rfl, 0, rfl⟩
  have g1 : ((bs.length : Int) == 0) = false := beq_eq_false_iff_ne.2 (by omega)
  by_cases h1 : (bs.length : Int) < 4
  · rw [whole_1 h0 (by omega)]
    generalize bs.length = L at *
    clear h hb hT
    go_enter Tryd.func58, Tryd.ntmps58
    go_wp2_with fail
    go_ret2
    exact ⟨rfl, 0, rfl⟩
  have W1 : Hid (Calls Tryd.prog 61 #[.slice ao bs.length cap] w fun e w' => e = .returned (.int .u32 ((CrcM.num (bs.take 4) : Nat) : Int)) ∧ w' = w) := word_at bs _ w hb (by omega) h
  have hn := num_lt32 hb (k := 4) (by omega)
  by_cases h2 : (4194304 : Int) < ((CrcM.num (bs.take 4) : Nat) : Int)
  · rw [whole_2 (by omega) (by omega)]
    clear h hb hT
    generalize CrcM.num (bs.take 4) = N at *
    generalize bs.length = L at *
    go_enter Tryd.func58, Tryd.ntmps58
    go_wp2_with fail
    refine W1.out.mono ?_
    rintro e w2 ⟨rfl, rfl⟩
    go_wp2_with fail
    go_ret2
    exact ⟨rfl, 0, rfl⟩
  by_cases h3 : (bs.length : Int) < ((CrcM.num (bs.take 4) : Nat) : Int) + 8
  · rw [whole_3 (by omega) (by omega) (by omega)]
    clear h hb hT
    generalize CrcM.num (bs.take 4) = N at *
    generalize bs.length = L at *
    go_enter Tryd.func58, Tryd.ntmps58
    go_wp2_with fail
    refine W1.out.mono ?_
    rintro e w2 ⟨rfl, rfl⟩
    go_wp2_with fail
    go_ret2
    exact ⟨rfl, 0, rfl⟩
  have h0' : 4 ≤ bs.length := by omega
  have X4 := whole_4 (l := bs) h0' (by omega) (by omega)
  have X5 := whole_5 (l := bs) h0' (by omega) (by omega)
  generalize hN : CrcM.num (bs.take 4) = N at *
  have SM : Hid (∀ n, Calls Tryd.prog 53 #[.slice ao (N + 4) cap] (w.drewN n) fun e w' => e = .returned (.int .u32 ((CrcM.sum (bs.take (N + 4)) : Nat) : Int)) ∧ w' = w.drewN n) := fun n => by
    have r := Rd.cut (k := N + 4) h (by omega)
    rw [← List.map_take] at r
    exact sum_same _ _ (w.drewN n) (fun b hb' => hb b (List.mem_of_mem_take hb')) (by rw [List.length_take]; omega) (Rd.drewN r n) (hT.drewN n)
  have ao' : ∃ g o, ao = some ⟨g, o, none⟩ := by
    obtain ⟨_, _, H⟩ := h.at
    obtain ⟨g, o, e, _⟩ := H 0 (by omega)
    exact ⟨g, o, e⟩
  obtain ⟨g, o, rfl⟩ := ao'
  have W2 : Hid (∀ n, Calls Tryd.prog 61 #[.slice (some ⟨g, o + (N + 4), none⟩) (bs.length - (N + 4)) (cap - (N + 4))] (w.drewN n) fun e w' => e = .returned (.int .u32 ((CrcM.num ((bs.drop (N + 4)).take 4) : Nat) : Int)) ∧ w' = w.drewN n) := fun n => by
    have r := Rd.tail (k := N + 4) (ad := some ⟨g, o + (N + 4), none⟩) h (by omega) (fun g' o' e _ => by cases e; rfl) (fun e => by cases e)
    rw [← List.map_drop] at r
    exact word_at _ _ (w.drewN n) (fun b hb' => hb b (List.mem_of_mem_drop hb')) (by rw [List.length_drop]; omega) (Rd.drewN r n)
  have b1 : N + 4 ≤ bs.length := by omega
  have b2 : bs.length ≤ cap := by omega
  have b3 : bs.length ≤ 1000000000000 := hl
  clear h hb hT hl0 hnil hcap hl hN
  have eM : (N : Int) + 8 - 4 = ((N + 4 : Nat) : Int) := by omega
  by_cases h4 : ((CrcM.num ((bs.drop (N + 4)).take 4) : Nat) : Int) = ((CrcM.sum (bs.take (N + 4)) : Nat) : Int)
  · rw [X5 (by omega)]
    rw [h4] at W2
    clear X4 X5 h4
    generalize CrcM.sum (bs.take (N + 4)) = S at *
    generalize bs.length = L at *
    have e0 : ((S : Int) != (S : Int)) = false := by simp
    go_enter Tryd.func58, Tryd.ntmps58
    go_wp2_with fail
    refine W1.out.mono ?_
    rintro e w2 ⟨rfl, rfl⟩
    go_wp2_with fail
    clear eM
    go_quiet ((first | (go_at_call 61; exact Calls.quiet_of_same (W2.out _)) | (go_at_call 53; exact Calls.quiet_of_same (SM.out _))))
    go_wp2_with fail
    go_ret2
    exact ⟨rfl, nq, rfl⟩
  · rw [X4 (by omega)]
    have e0 : (((CrcM.num ((bs.drop (N + 4)).take 4) : Nat) : Int) != ((CrcM.sum (bs.take (N + 4)) : Nat) : Int)) = true := bne_iff_ne.2 h4
    clear X4 X5 h4
    generalize CrcM.num ((bs.drop (N + 4)).take 4) = T at *
    generalize CrcM.sum (bs.take (N + 4)) = S at *
    generalize bs.length = L at *
    go_enter Tryd.func58, Tryd.ntmps58
    go_wp2_with fail
    refine W1.out.mono ?_
    rintro e w2 ⟨rfl, rfl⟩
    go_wp2_with fail
    clear eM
    go_quiet ((first | (go_at_call 61; exact Calls.quiet_of_same (W2.out _)) | (go_at_call 53; exact Calls.quiet_of_same (SM.out _))))
    go_wp2_with fail
    go_ret2
    exact ⟨rfl, nq, rfl⟩
end Go.Proofs.YtcmfehabcklbpaaDoor
