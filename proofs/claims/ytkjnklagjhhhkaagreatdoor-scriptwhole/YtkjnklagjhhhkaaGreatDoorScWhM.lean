/-
  Ours: operations written as lines of a text, pure: what the text's lines are.
-/
import Derived.Test.YtkjnklagjhhhkaaGreatDoorScM
import Derived.Test.YtkjnklagjhhhkaaGreatDoorScGbw
namespace Go.Proofs.YtkjnklagjhhhkaaGreatDoor
open Go.RowKit Go.Lib ScF
namespace ScF

/-- A text of whole lines, and what its lines are. -/
def TextOk (t : List Nat) (L : List (List Nat)) : Prop := ∀ r, ScM.lns (t ++ r) = L ++ ScM.lns r
theorem TextOk.nil : TextOk [] [] := fun _ => rfl
theorem TextOk.line {t p : List Nat} {L : List (List Nat)} (h : TextOk t L) (h10 : 10 ∉ p) (hk : ScM.keep p = [p]) : TextOk (t ++ p ++ [10]) (L ++ [p]) := fun r => by
  rw [List.append_assoc, List.append_assoc, h, List.append_assoc]
  congr 1
  have := ScM.lnsA_cut p r [] h10
  rw [List.nil_append, hk] at this
  exact this
def remark : List Nat := [10, 35, 32, 100, 97, 121, 32, 55, 10, 35, 10]
theorem remark_no (r : List Nat) : ScM.lns (remark ++ r) = ScM.lns r := by
  have a := ScM.lnsA_cut [] ([35, 32, 100, 97, 121, 32, 55] ++ 10 :: ([35] ++ 10 :: r)) [] (by simp)
  have b := ScM.lnsA_cut [35, 32, 100, 97, 121, 32, 55] ([35] ++ 10 :: r) [] (by decide)
  have c := ScM.lnsA_cut [35] r [] (by decide)
  show ScM.lnsA [] ([] ++ 10 :: ([35, 32, 100, 97, 121, 32, 55] ++ 10 :: ([35] ++ 10 :: r))) = _
  rw [a]
  show ScM.keep [] ++ ScM.lnsA [] ([35, 32, 100, 97, 121, 32, 55] ++ 10 :: ([35] ++ 10 :: r)) = _
  rw [b]
  show ScM.keep [] ++ (ScM.keep ([] ++ [35, 32, 100, 97, 121, 32, 55]) ++ ScM.lnsA [] ([35] ++ 10 :: r)) = _
  rw [c]
  rfl
theorem TextOk.strew {t : List Nat} {L : List (List Nat)} (h : TextOk t L) : TextOk (t ++ remark) L := fun r => by rw [List.append_assoc, h, remark_no]
theorem TextOk.all {t : List Nat} {L : List (List Nat)} (h : TextOk t L) : ScM.lns t = L := by
  have := h []
  rw [List.append_nil] at this
  rw [this]
  show L ++ [] = L
  rw [List.append_nil]

theorem dec_no10 (n : Nat) : (10 : UInt8) ∉ decDigits n := fun h => by have := dec_dig n _ h; simp at this
theorem itoa_no10 (n : Int) : (10 : UInt8) ∉ itoa n := by
  unfold itoa
  split
  · intro h
    rcases List.mem_cons.1 h with h | h
    · exact absurd h (by decide)
    · exact dec_no10 _ h
  · exact dec_no10 _
theorem fmt_no10 (x : Int) : (10 : UInt8) ∉ fmtL x := by
  have ha : ∀ n : Nat, (10 : UInt8) ∉ amtL n := fun n h => by
    unfold amtL at h
    rcases List.mem_append.1 h with h | h
    · exact dec_no10 _ h
    · simp only [List.mem_cons, List.not_mem_nil, or_false] at h
      rcases h with h | h | h
      · exact absurd h (by decide)
      · have := congrArg UInt8.toNat h
        rw [u8_nat (by omega)] at this
        simp at this
        omega
      · have := congrArg UInt8.toNat h
        rw [u8_nat (by omega)] at this
        simp at this
        omega
  unfold fmtL
  split
  · intro h
    rcases List.mem_cons.1 h with h | h
    · exact absurd h (by decide)
    · exact ha _ h
  · exact ha _
theorem tell_no10 (o : Cm) (s : Nat) (t : List UInt8) (h : tellS o s = some t) : 10 ∉ t := by
  have hw : ∀ n, wholeT n = some t → 10 ∉ t := fun n h => by
    unfold wholeT at h
    split at h
    · injection h with h; subst h; exact itoa_no10 n
    · cases h
  match s, h with
  | 0, h => exact hw _ h
  | 1, h => exact hw _ h
  | 2, h => exact hw _ h
  | 3, h => exact hw _ h
  | 4, h => injection h with h; subst h; exact fmt_no10 _
  | 5, h =>
    simp only [tellS, planW] at h
    split at h
    · injection h with h; subst h; decide
    · split at h
      · injection h with h; subst h; decide
      · split at h
        · injection h with h; subst h; decide
        · cases h
  | 6, h =>
    simp only [tellS, letters] at h
    split at h
    · cases h
    · split at h
      · rename_i hc
        injection h with h
        subst h
        exact ((clean_iff _).1 hc).2
      · cases h
  | n + 7, h => cases h
theorem line_no10 (o : Cm) : ∀ (sl : List Nat) (l r : List UInt8), lineS o sl l = some r → 10 ∉ l → 10 ∉ r ∧ ∃ q, r = l ++ q
  | [], l, r, h, hl => by injection h with h; subst h; exact ⟨hl, [], by simp⟩
  | s :: sl, l, r, h, hl => by
    rw [lineS] at h
    cases e : tellS o s with
    | none => rw [e] at h; cases h
    | some t =>
      rw [e] at h
      have ht := tell_no10 o s t e
      obtain ⟨h1, q, hq⟩ := line_no10 o sl _ r h (by
        intro hm
        rcases List.mem_append.1 hm with hm | hm
        · exact hl hm
        · rcases List.mem_cons.1 hm with hm | hm
          · exact absurd hm (by decide)
          · exact ht hm)
      exact ⟨h1, 32 :: t ++ q, by rw [hq]; simp⟩
theorem word_first : ∀ k, k < 22 → 1 ≤ k → (10 : UInt8) ∉ wordN k ∧ 0 < (wordN k).length ∧ (wordN k).getD 0 0 ≠ 35 := by decide
theorem fmt_line {o : Cm} {l : List UInt8} (h : fmtOp o = some l) : 10 ∉ l.map (·.toNat) ∧ ScM.keep (l.map (·.toNat)) = [l.map (·.toNat)] ∧ l.length ≤ 100 := by
  unfold fmtOp at h
  split at h
  · rename_i hk
    obtain ⟨k, hkk⟩ : ∃ k : Nat, o.kind = (k : Int) := ⟨o.kind.toNat, by omega⟩
    have e1 : o.kind.toNat = k := by omega
    rw [e1] at h
    cases hl : lineS o (slotN k) (wordN k) with
    | none => rw [hl] at h; cases h
    | some r =>
      rw [hl] at h
      have hr : r.length ≤ 100 ∧ r = l := by
        unfold short at h
        simp only at h
        split at h
        · rename_i hlen; injection h with h; exact ⟨hlen, h⟩
        · cases h
      obtain ⟨h100, rfl⟩ := hr
      obtain ⟨w1, w2, w3⟩ := word_first k (by omega) (by omega)
      obtain ⟨n1, q, hq⟩ := line_no10 o _ _ _ hl w1
      refine ⟨fun hm => ?_, ?_, h100⟩
      · obtain ⟨x, hx, e⟩ := List.mem_map.1 hm
        have : x = 10 := UInt8.toNat_inj.1 (by simpa using e)
        exact n1 (this ▸ hx)
      · have g0 : r.getD 0 0 = (wordN k).getD 0 0 := by
          rw [hq, List.getD_eq_getElem?_getD, List.getD_eq_getElem?_getD, List.getElem?_append_left w2]
        have hlen : 0 < r.length := by rw [hq, List.length_append]; omega
        have gd : (r.map (·.toNat)).getD 0 0 = (r.getD 0 0).toNat := by
          rw [List.getD_eq_getElem?_getD, List.getD_eq_getElem?_getD, List.getElem?_map, List.getElem?_eq_getElem hlen]; rfl
        unfold ScM.keep
        rw [if_neg (by rw [List.length_map]; omega), if_neg (fun e => ?_)]
        rw [gd, g0] at e
        exact w3 (UInt8.toNat_inj.1 (by simpa using e))
  · cases h

/-- What the operations so far are to be read back as, and the lines that tell them. -/
def wants (os : List Cm) : List Cm := (os.filter spk).map bareC
def linesW (os : List Cm) : List (List Nat) := (os.filter spk).map (fun o => ((fmtOp o).getD []).map (·.toNat))
theorem wants_yes {os : List Cm} {o : Cm} (h : spk o = true) : wants (os ++ [o]) = wants os ++ [bareC o] := by
  simp [wants, List.filter_append, h]
theorem wants_no {os : List Cm} {o : Cm} (h : spk o = false) : wants (os ++ [o]) = wants os := by
  simp [wants, List.filter_append, h]
theorem lines_yes {os : List Cm} {o : Cm} {l : List UInt8} (h : spk o = true) (hl : fmtOp o = some l) : linesW (os ++ [o]) = linesW os ++ [l.map (·.toNat)] := by
  simp [linesW, List.filter_append, h, hl]
theorem lines_no {os : List Cm} {o : Cm} (h : spk o = false) : linesW (os ++ [o]) = linesW os := by
  simp [linesW, List.filter_append, h]
theorem wants_len (os : List Cm) : (wants os).length = (linesW os).length ∧ (wants os).length ≤ os.length := by
  refine ⟨by simp [wants, linesW], ?_⟩
  rw [wants, List.length_map]
  exact List.length_filter_le _ _
/-- The i-th line is read as the i-th operation wanted. -/
theorem wants_at (os : List Cm) (hok : ∀ o ∈ os, o.Ok) (i : Nat) (hi : i < (wants os).length) : ∃ l : List UInt8, (linesW os).getD i [] = l.map (·.toNat) ∧ readL l = .ok ((wants os).getD i cm0) ∧ l.length ≤ 100 := by
  have hi' : i < (os.filter spk).length := by simpa [wants] using hi
  have hm := List.getElem_mem hi'
  rw [List.mem_filter] at hm
  obtain ⟨l, hl⟩ := spk_some _ (hok _ hm.1) hm.2
  obtain ⟨g1, g2⟩ := gives_back _ (hok _ hm.1) l hl
  refine ⟨l, ?_, ?_, g2⟩
  · rw [linesW, List.getD_eq_getElem?_getD, List.getElem?_map, List.getElem?_eq_getElem hi']
    simp [hl]
  · rw [wants, List.getD_eq_getElem?_getD, List.getElem?_map, List.getElem?_eq_getElem hi']
    simp [g1]
end ScF
end Go.Proofs.YtkjnklagjhhhkaaGreatDoor
