/-
  Ours: the program's Bool, take[bool] and truth.
-/
import Derived.Test.YtdbjjeaflfoppaaWirRdM
namespace Go.Proofs.Ytdbjjeaflfoppaa
open Go.RowKit WsM

def boAns (r : Bool × Option Nat) : Ending := match r with
  | (b, some n) => .returned (.tuple #[.bool b, .int .i64 (n : Int), .bool true])
  | (_, none) => .returned (.tuple #[.bool false, .int .i64 0, .bool false])
set_option maxRecDepth 20000 in
set_option maxHeartbeats 1000000 in
theorem bool_at (bs : List Nat) (p : Nat) (v : Value) (w : World) (hb : ∀ c ∈ bs, c < 256) (hl : bs.length ≤ 1000000000000) (hp : p ≤ bs.length) (h : RdB w v bs) :
    Calls Try.prog 104 #[v, .int .i64 (p : Int)] w fun e w' => e = boAns (tkB bs (some p)) ∧ w' = w := by
  obtain ⟨L, hL⟩ : ∃ L, bs.length = L := ⟨_, rfl⟩
  obtain ⟨ao, cap, rfl, hcap, hn, H⟩ := h
  have HA : Hid (∀ i, i < L → ∃ g o, ao = some ⟨g, o, none⟩ ∧ w.cell? ⟨g, o + i, none⟩ = some (.int .u8 (bs.getD i 0 : Nat)) ∧ bs.getD i 0 < 256) := fun i hi => by
    obtain ⟨g, o, e1, _, e2⟩ := H i (by rw [List.length_map]; omega)
    refine ⟨g, o, e1, ?_, ?_⟩
    · rw [e2, List.getElem_map, List.getD_eq_getElem?_getD, List.getElem?_eq_getElem (by omega)]; rfl
    · rw [List.getD_eq_getElem?_getD, List.getElem?_eq_getElem (by omega)]; exact hb _ (List.getElem_mem _)
  rw [List.length_map, hL] at hcap ⊢
  have d0 : decide ((p : Int) < 0) = false := decide_eq_false (by omega)
  by_cases hp1 : p < L
  · obtain ⟨g, o, rfl, c0, cb⟩ := HA.out p hp1
    have T : Hid (tkB bs (some p) = if bs.getD p 0 ≤ 1 then (bs.getD p 0 == 1, some (p + 1)) else (false, none)) := by
      show _ = _
      unfold tkB
      simp only
      rw [dif_pos (by omega), List.getD_eq_getElem?_getD, List.getElem?_eq_getElem (by omega)]
      rfl
    have d1 : decide ((L : Int) ≤ (p : Int)) = false := decide_eq_false (by omega)
    generalize bs.getD p 0 = c at *
    rw [hL] at hl
    clear H HA hL hb hp
    by_cases hc : c ≤ 1
    · rw [if_pos hc] at T
      have d2 : decide ((1 : Int) < (c : Int)) = false := decide_eq_false (by omega)
      have ee : ((c : Int) == 1) = (c == 1) := by
        by_cases c1 : c = 1
        · subst c1; rfl
        · have : c = 0 := by omega
          subst this; rfl
      rw [T.out]
      generalize (c == 1) = bb at *
      go_enter Try.func104, Try.ntmps104
      go_wp2_with fail
      go_ret3
      refine ⟨?_, rfl⟩
      simp only [boAns]
      go_num
    · rw [if_neg hc] at T
      have d2 : decide ((1 : Int) < (c : Int)) = true := decide_eq_true (by omega)
      rw [T.out]
      go_enter Try.func104, Try.ntmps104
      go_wp2_with fail
      go_ret3
      exact ⟨rfl, rfl⟩
  · have T : Hid (tkB bs (some p) = (false, none)) := by
      show _ = _
      unfold tkB
      simp only
      rw [dif_neg (by omega)]
    have d1 : decide ((L : Int) ≤ (p : Int)) = true := decide_eq_true (by omega)
    rw [T.out]
    clear H HA hL hb hp
    go_enter Try.func104, Try.ntmps104
    go_wp2_with fail
    go_ret3
    exact ⟨rfl, rfl⟩
theorem tkB_le {bs : List Nat} {p q : Nat} (h : (tkB bs (some p)).2 = some q) : q ≤ bs.length := (tkB_got.yes q h).2.2.2
set_option maxRecDepth 20000 in
set_option maxHeartbeats 1000000 in
theorem takeB_at (bs : List Nat) (hb : ∀ c ∈ bs, c < 256) (hl : bs.length ≤ 1000000000000) (R : Nat) (v : Value) (st : Option Nat) (w : World) (h : RS bs R v st w) :
    Calls Try.prog 103 #[.pointer (some ⟨R, 0, none⟩), .func (.func 104) #[] #[]] w fun e w' => e = .returned (.bool (tkB bs st).1) ∧ RS bs R v (tkB bs st).2 w' ∧ w.grownBy w' (some R) := by
  have c0 := h.c0
  have c2 := h.c2
  obtain ⟨p, c1, hp⟩ := h.c1
  have fz1 := h.fz 1
  have fz2 := h.fz 2
  cases st with
  | none =>
    simp only [Option.isNone] at c2
    have HH : Hid (RS bs R v none w) := h
    clear h hp
    go_enter Try.func103, Try.ntmps103
    go_wp2_with fail
    go_ret
    exact ⟨rfl, HH.out, grownBy_refl _ _⟩
  | some q =>
    obtain rfl := hp q rfl
    have hq := h.le q rfl
    simp only [Option.isNone] at c2
    have C : Hid (∀ n, Calls Try.prog 104 #[v, .int .i64 (q : Int)] (w.drewN n) fun e w' => e = boAns (tkB bs (some q)) ∧ w' = w.drewN n) := fun n => bool_at bs q v (w.drewN n) hb hl hq h.rd
    cases hr : tkB bs (some q) with
    | mk b st' =>
      cases st' with
      | none =>
        have eb : b = false := by
          have h2 := hr
          unfold tkB at h2
          simp only at h2
          split at h2
          · split at h2
            · cases h2
            · injection h2 with h3; exact h3.symm
          · injection h2 with h3; exact h3.symm
        subst eb
        have PT : Hid (∀ n, RS bs R v none (((w.drewN n).setCell ⟨R, 1, none⟩ (.int .i64 0)).setCell ⟨R, 2, none⟩ (.bool true)) ∧ w.grownBy (((w.drewN n).setCell ⟨R, 1, none⟩ (.int .i64 0)).setCell ⟨R, 2, none⟩ (.bool true)) (some R)) := fun n => h.put (st' := none) n 0 (fun q h => by cases h) (fun q h => by cases h)
        rw [hr] at C
        simp only [boAns] at C
        clear h hr hp
        go_enter Try.func103, Try.ntmps103
        go_wp2_with fail
        go_quiet ((go_at_call 104; exact Calls.quiet_of_same (C.out _)))
        go_wp2_with fail
        go_ret
        exact ⟨rfl, PT.out _⟩
      | some n =>
        have ln := tkB_le (bs := bs) (p := q) (q := n) (by rw [hr])
        have PT : Hid (∀ k, RS bs R v (some n) (((w.drewN k).setCell ⟨R, 1, none⟩ (.int .i64 (n : Int))).setCell ⟨R, 2, none⟩ (.bool false)) ∧ w.grownBy (((w.drewN k).setCell ⟨R, 1, none⟩ (.int .i64 (n : Int))).setCell ⟨R, 2, none⟩ (.bool false)) (some R)) := fun k => h.put (st' := some n) k n (fun q h => by cases h; rfl) (fun q h => by cases h; omega)
        rw [hr] at C
        simp only [boAns] at C
        clear h hr hp ln
        go_enter Try.func103, Try.ntmps103
        go_wp2_with fail
        go_quiet ((go_at_call 104; exact Calls.quiet_of_same (C.out _)))
        go_wp2_with fail
        go_ret
        exact ⟨rfl, PT.out _⟩
theorem truth_at (bs : List Nat) (hb : ∀ c ∈ bs, c < 256) (hl : bs.length ≤ 1000000000000) (R : Nat) (v : Value) (st : Option Nat) (w : World) (h : RS bs R v st w) :
    Calls Try.prog 82 #[.pointer (some ⟨R, 0, none⟩)] w fun e w' => e = .returned (.bool (tkB bs st).1) ∧ RS bs R v (tkB bs st).2 w' ∧ w.grownBy w' (some R) := by
  have C : Hid (Calls Try.prog 103 #[.pointer (some ⟨R, 0, none⟩), .func (.func 104) #[] #[]] w fun e w' => e = .returned (.bool (tkB bs st).1) ∧ RS bs R v (tkB bs st).2 w' ∧ w.grownBy w' (some R)) := takeB_at bs hb hl R v st w h
  clear h
  generalize (tkB bs st).1 = x at *
  generalize (tkB bs st).2 = st' at *
  go_enter Try.func82, Try.ntmps82
  go_wp2_with fail
  refine C.out.mono ?_
  rintro e w1 ⟨rfl, r1, g1⟩
  have R1 : Hid (RS bs R v st' w1) := r1
  clear r1
  go_wp2_with fail
  go_ret
  exact ⟨rfl, R1.out, g1⟩
end Go.Proofs.Ytdbjjeaflfoppaa
