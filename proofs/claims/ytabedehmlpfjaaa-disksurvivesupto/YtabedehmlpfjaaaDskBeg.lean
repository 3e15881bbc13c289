/-
  Ours: begins.
-/
import Derived.Test.YtabedehmlpfjaaaDskSide
namespace Go.Proofs.Ytabedehmlpfjaaa
open Go.RowKit

set_option maxRecDepth 20000 in
set_option maxHeartbeats 1000000 in
theorem begins_at (xs ys : List Nat) (a b : Option Addr) (n m c d : Nat) (w : World) (hl : xs.length ≤ 140737488355328) (hx : RdB w (.slice a n c) xs) (hy : RdB w (.slice b m d) ys) :
    Calls Try.prog 43 #[.slice a n c, .slice b m d] w fun e w' => e = .returned (.bool (decide (xs <+: ys))) ∧ ∃ n, w' = w.drewN n := by
  have nl : n = xs.length := by
    obtain ⟨_, _, e, _, _⟩ := hx.len
    injection e with e1 e2; rw [e2, List.length_map]
  have ml : m = ys.length := by
    obtain ⟨_, _, e, _, _⟩ := hy.len
    injection e with e1 e2; rw [e2, List.length_map]
  have hmd : m ≤ d := by
    obtain ⟨_, _, e, h1, _⟩ := hy.len
    injection e with e1 e2 e3; rw [List.length_map] at h1; omega
  by_cases h : n ≤ m
  · have d1 : decide ((n : Int) ≤ (m : Int)) = true := decide_eq_true (by omega)
    have hy2 : RdB w (.slice b n d) (ys.take n) := by
      have := Rd.cut hy h
      rw [← List.map_take] at this; exact this
    have key : decide (xs = ys.take n) = decide (xs <+: ys) := by
      congr 1
      rw [List.prefix_iff_eq_take, nl]
    have EQ : Hid (Calls Try.prog 13 #[.slice a n c, .slice b n d] w fun e w' => e = .returned (.bool (decide (xs <+: ys))) ∧ ∃ n, w' = w.drewN n) := key ▸ equal_at xs (ys.take n) _ _ w hl hx hy2
    have hnd : n ≤ d := by omega
    generalize decide (xs <+: ys) = r at *
    clear hx hy hy2 key nl ml hmd
    go_enter Try.func43, Try.ntmps43
    go_wp2_with fail
    refine EQ.out.mono ?_
    rintro e w2 ⟨rfl, k, rfl⟩
    go_wp2_with fail
    go_ret
    exact ⟨rfl, k, rfl⟩
  · have d1 : decide ((n : Int) ≤ (m : Int)) = false := decide_eq_false (by omega)
    have key : decide (xs <+: ys) = false := decide_eq_false fun hp => by have := hp.length_le; omega
    rw [key]
    clear hx hy nl ml hmd key
    go_enter Try.func43, Try.ntmps43
    go_wp2_with fail
    go_ret
    exact ⟨rfl, 0, rfl⟩
end Go.Proofs.Ytabedehmlpfjaaa
