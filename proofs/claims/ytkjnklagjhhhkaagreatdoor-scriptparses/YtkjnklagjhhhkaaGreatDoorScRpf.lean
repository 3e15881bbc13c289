/-
  Ours: the reference's fieldEnd and blanks.
-/
import Derived.Test.YtkjnklagjhhhkaaGreatDoorScP
import Derived.Test.YtkjnklagjhhhkaaGreatDoorScPrs
namespace Go.Proofs.YtkjnklagjhhhkaaGreatDoor
open Go.RowKit Go.Lib ScF

namespace ScF
def fe (l : List UInt8) : Nat := ((spl l).getD 0 []).length
theorem fe_nil : fe [] = 0 := rfl
theorem fe_blank (r : List UInt8) : fe (32 :: r) = 0 := by unfold fe; rw [spl, if_pos rfl]; rfl
theorem fe_cons {c : UInt8} (h : c ≠ 32) (r : List UInt8) : fe (c :: r) = fe r + 1 := by
  unfold fe
  rw [spl, if_neg h]
  split
  · rename_i e; exact absurd e (spl_ne r)
  · rename_i f fs e; rw [e]; rfl
theorem sl_blank (r : List UInt8) : (spl (32 :: r)).length = (spl r).length + 1 := by rw [spl, if_pos rfl]; rfl
theorem sl_cons {c : UInt8} (h : c ≠ 32) (r : List UInt8) : (spl (c :: r)).length = (spl r).length := by
  rw [spl, if_neg h]
  split
  · rename_i e; exact absurd e (spl_ne r)
  · rename_i f fs e; rw [e]; rfl
theorem drop_at {l : List UInt8} {k : Nat} (h : k < l.length) : l.drop k = l.getD k 0 :: l.drop (k + 1) := by
  rw [List.drop_eq_getElem_cons h, List.getD_eq_getElem?_getD, List.getElem?_eq_getElem h]; rfl
theorem spl_step {l : List UInt8} {p : Nat} {f : List UInt8} {r : List (List UInt8)} (e : spl (l.drop p) = f :: r) (hr : r ≠ []) : p + f.length < l.length ∧ spl (l.drop (p + f.length + 1)) = r := by
  rcases cut_or (l.drop p) with h | ⟨a, b, e', ha⟩
  · rw [spl_no _ h] at e
    injection e with _ e2
    exact absurd e2.symm hr
  · rw [e', spl_cut a b ha] at e
    injection e with e1 e2
    subst e1
    have hl := congrArg List.length e'
    simp at hl
    refine ⟨by omega, ?_⟩
    rw [← e2, Nat.add_assoc, ← List.drop_drop, e', ← List.drop_drop, List.drop_left' rfl]
    rfl
theorem spl_head {l : List UInt8} {f : List UInt8} {r : List (List UInt8)} (e : spl l = f :: r) : l.take f.length = f := by
  rcases cut_or l with h | ⟨a, b, e', ha⟩
  · rw [spl_no _ h] at e
    injection e with e1 _
    rw [e1]; exact List.take_length
  · rw [e', spl_cut a b ha] at e
    injection e with e1 _
    subst e1
    rw [e', List.take_left' rfl]
theorem fe_of {l f : List UInt8} {r : List (List UInt8)} (e : spl l = f :: r) : fe l = f.length := by unfold fe; rw [e]; rfl
end ScF

theorem bytes_at {w : World} {a : Option Addr} {n c : Nat} {l : List UInt8} (h : Rd w (.slice a n c) (byteCells l)) : n = l.length ∧ ∀ i, i < n → ∃ g o, a = some ⟨g, o, none⟩ ∧ w.cell? ⟨g, o + i, none⟩ = some (.int .u8 ((l.getD i 0).toNat : Int)) := by
  obtain ⟨ao, cap, e, hcap, hnil, H⟩ := h
  injection e with e1 e2 e3
  subst e1 e3
  rw [byteCells_length] at e2
  refine ⟨e2, fun i hi => ?_⟩
  obtain ⟨g, o, e1, _, e4⟩ := H i (by rw [byteCells_length]; omega)
  refine ⟨g, o, e1, ?_⟩
  rw [e4, List.getD_eq_getElem?_getD, List.getElem?_eq_getElem (by omega)]
  simp [byteCells]

set_option maxHeartbeats 2000000 in
theorem rend_at (l : List UInt8) (a : Option Addr) (n c p : Nat) (w : World) (hR : Rd w (.slice a n c) (byteCells l)) (hmax : l.length ≤ 140737488355328) (hp : p ≤ l.length) : Calls Tryz.prog 25 #[.slice a n c, .int .i64 (p : Int)] w fun e w' => e = .returned (.int .i64 ((p + fe (l.drop p) : Nat) : Int)) ∧ w' = w := by
  obtain ⟨hn, H⟩ := bytes_at hR
  have HH : Hid (∀ i, i < n → ∃ g o, a = some ⟨g, o, none⟩ ∧ w.cell? ⟨g, o + i, none⟩ = some (.int .u8 ((l.getD i 0).toNat : Int))) := H
  have HN : Hid (n = l.length) := hn
  have FD : Hid (∀ k, k < n → l.drop k = l.getD k 0 :: l.drop (k + 1)) := fun k hk => drop_at (by rw [← HN.out]; exact hk)
  have hmx : n ≤ 140737488355328 := by omega
  have hpn : p ≤ n := by omega
  obtain ⟨E, hE⟩ : ∃ E, p + fe (l.drop p) = E := ⟨_, rfl⟩
  have HE : Hid (p + fe (l.drop p) = E) := hE
  rw [hE]
  clear H hn hE hR hp hmax
  go_enter Tryz.func25, Tryz.ntmps25
  go_wp2_with fail
  go_loopw [1] (fun v1 wr => ∃ k : Nat, v1 = .int .i64 (k : Int) ∧ k ≤ n ∧ Hid (k + fe (l.drop k) = E) ∧ wr = w) (fun v1 _ => n - (RowKit.intOf v1).toNat)
  case atStart => exact ⟨p, rfl, hpn, HE.out, rfl⟩
  case round =>
    obtain ⟨k, rfl, hk, KE, rfl⟩ := hrel
    by_cases hlt : (k : Int) < (n : Int)
    · obtain ⟨g, o, rfl, c0⟩ := HH.out k (by omega)
      have fd := FD.out k (by omega)
      by_cases hb : l.getD k 0 = 32
      · have EE : Hid (k = E) := by have := KE.out; rw [fd, hb, fe_blank] at this; exact this
        rw [hb] at c0
        have c1 : wr.cell? ⟨g, o + k, none⟩ = some (.int .u8 32) := c0
        clear c0 fd hb KE
        go_wp2_with fail
        go_ret
        exact ⟨by rw [EE.out]; rfl, rfl⟩
      · have KE' : Hid (k + 1 + fe (l.drop (k + 1)) = E) := by have := KE.out; rw [fd, fe_cons hb] at this; show _ = _; omega
        have ne : (((l.getD k 0).toNat : Int) != 32) = true := bne_iff_ne.2 fun e => hb (UInt8.toNat_inj.1 (by show (l.getD k 0).toNat = 32; omega))
        clear fd hb KE
        generalize ((l.getD k 0).toNat : Int) = x at *
        go_wp2_with fail
        go_roundw
        case rel => exact ⟨k + 1, by go_num, by omega, KE', trivial⟩
        case measure => simp [RowKit.intOf]; omega
    · obtain rfl : k = n := by omega
      have EE : Hid (k = E) := by
        have := KE.out
        rw [List.drop_of_length_le (by have := HN.out; omega), fe_nil] at this
        exact this
      clear KE
      go_wp2_with fail
      go_ret
      exact ⟨by rw [EE.out]; rfl, rfl⟩

set_option maxHeartbeats 2000000 in
theorem rblanks_at (l : List UInt8) (a : Option Addr) (n c : Nat) (w : World) (hR : Rd w (.slice a n c) (byteCells l)) (hmax : l.length ≤ 140737488355328) : Calls Tryz.prog 28 #[.slice a n c] w fun e w' => e = .returned (.int .i64 (((spl l).length - 1 : Nat) : Int)) ∧ w' = w := by
  obtain ⟨hn, H⟩ := bytes_at hR
  have HH : Hid (∀ i, i < n → ∃ g o, a = some ⟨g, o, none⟩ ∧ w.cell? ⟨g, o + i, none⟩ = some (.int .u8 ((l.getD i 0).toNat : Int))) := H
  have HN : Hid (n = l.length) := hn
  have FD : Hid (∀ k, k < n → l.drop k = l.getD k 0 :: l.drop (k + 1)) := fun k hk => drop_at (by rw [← HN.out]; exact hk)
  have hmx : n ≤ 140737488355328 := by omega
  obtain ⟨E, hE⟩ : ∃ E, (spl l).length = E := ⟨_, rfl⟩
  have HE : Hid ((spl l).length = E) := hE
  rw [hE]
  clear H hn hE hR hmax
  go_enter Tryz.func28, Tryz.ntmps28
  go_wp2_with fail
  go_loopw [3, 4] (fun v3 v4 wr => ∃ k m : Nat, v3 = .int .i64 (m : Int) ∧ v4 = .int .i64 (k : Int) ∧ k ≤ n ∧ m ≤ k ∧ Hid (m + (spl (l.drop k)).length = E) ∧ wr = w) (fun _ v4 _ => n - (RowKit.intOf v4).toNat)
  case atStart => exact ⟨0, 0, rfl, rfl, by omega, by omega, by have := HE.out; show _ = _; simpa using this, rfl⟩
  case round =>
    obtain ⟨k, m, rfl, rfl, hk, hm, KE, rfl⟩ := hrel
    by_cases hlt : (k : Int) < (n : Int)
    · obtain ⟨g, o, rfl, c0⟩ := HH.out k (by omega)
      have fd := FD.out k (by omega)
      by_cases hb : l.getD k 0 = 32
      · have KE' : Hid (m + 1 + (spl (l.drop (k + 1))).length = E) := by have := KE.out; rw [fd, hb, sl_blank] at this; show _ = _; omega
        rw [hb] at c0
        have c1 : wr.cell? ⟨g, o + k, none⟩ = some (.int .u8 32) := c0
        clear c0 fd hb KE
        go_wp2_with fail
        go_roundw
        case rel => exact ⟨k + 1, m + 1, by go_num, by go_num, by omega, by omega, KE', trivial⟩
        case measure => simp [RowKit.intOf]; omega
      · have KE' : Hid (m + (spl (l.drop (k + 1))).length = E) := by have := KE.out; rw [fd, sl_cons hb] at this; exact this
        have ne : (((l.getD k 0).toNat : Int) == 32) = false := beq_eq_false_iff_ne.2 fun e => hb (UInt8.toNat_inj.1 (by show (l.getD k 0).toNat = 32; omega))
        clear fd hb KE
        generalize ((l.getD k 0).toNat : Int) = x at *
        go_wp2_with fail
        go_roundw
        case rel => exact ⟨k + 1, m, rfl, by go_num, by omega, by omega, KE', trivial⟩
        case measure => simp [RowKit.intOf]; omega
    · obtain rfl : k = n := by omega
      have EE : Hid (m = E - 1) := by
        have := KE.out
        rw [List.drop_of_length_le (by have := HN.out; omega)] at this
        have e1 : (spl []).length = 1 := rfl
        show _ = _
        omega
      clear KE
      go_wp2_with fail
      go_ret
      exact ⟨by rw [EE.out]; rfl, rfl⟩
end Go.Proofs.YtkjnklagjhhhkaaGreatDoor
