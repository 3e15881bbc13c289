/-
  Ours: the lines of a text, as lists of bytes. No Go in sight.
-/
import Derived.Lib.IndexLaws
import Derived.Lib.Bytes
namespace Go.Proofs.Ytkjnklagjhhhkaa
namespace ScM

/-- A line that is told, or none. -/
def keep (l : List Nat) : List (List Nat) := if l.length = 0 then [] else if l.getD 0 0 = 35 then [] else [l]
def lnsA : List Nat → List Nat → List (List Nat)
  | cur, [] => keep cur
  | cur, c :: r => if c = 10 then keep cur ++ lnsA [] r else lnsA (cur ++ [c]) r
def lns (t : List Nat) : List (List Nat) := lnsA [] t

theorem lnsA_no : ∀ (t : List Nat) (cur : List Nat), 10 ∉ t → lnsA cur t = keep (cur ++ t)
  | [], cur, _ => by simp [lnsA]
  | c :: r, cur, h => by
    have h1 : ¬ c = 10 := fun e => h (by simp [e])
    rw [lnsA, if_neg h1, lnsA_no r _ (fun e => h (by simp [e]))]
    simp
theorem lnsA_cut : ∀ (p r cur : List Nat), 10 ∉ p → lnsA cur (p ++ 10 :: r) = keep (cur ++ p) ++ lns r
  | [], r, cur, _ => by simp [lnsA, lns]
  | c :: p, r, cur, h => by
    have h1 : ¬ c = 10 := fun e => h (by simp [e])
    rw [List.cons_append, lnsA, if_neg h1, lnsA_cut p r _ (fun e => h (by simp [e]))]
    simp
theorem lns_no {t : List Nat} (h : 10 ∉ t) : lns t = keep t := by rw [lns, lnsA_no t [] h]; rfl
theorem lns_cut {t : List Nat} {i : Nat} (h1 : t = t.take i ++ 10 :: t.drop (i + 1)) (h2 : 10 ∉ t.take i) : lns t = keep (t.take i) ++ lns (t.drop (i + 1)) := by
  have := lnsA_cut (t.take i) (t.drop (i + 1)) [] h2
  rw [← h1] at this
  exact this
theorem keep_mem {l x : List Nat} (h : x ∈ keep l) : x = l := by
  unfold keep at h
  split at h
  · cases h
  · split at h
    · cases h
    · simpa using h
theorem keep_len (l : List Nat) : (keep l).length ≤ l.length := by unfold keep; split <;> (try split) <;> simp <;> omega
theorem lnsA_len : ∀ (t cur : List Nat), (lnsA cur t).length ≤ cur.length + t.length
  | [], cur => by have := keep_len cur; simp [lnsA]; omega
  | c :: r, cur => by
    rw [lnsA]
    split
    · have := keep_len cur
      have := lnsA_len r []
      simp at this ⊢
      omega
    · have := lnsA_len r (cur ++ [c])
      simp at this ⊢
      omega
theorem lns_len (t : List Nat) : (lns t).length ≤ t.length := by unfold lns; have := lnsA_len t []; simpa using this
theorem lnsA_mem : ∀ (t cur x : List Nat), x ∈ lnsA cur t → x.length ≤ cur.length + t.length
  | [], cur, x, h => by rw [lnsA] at h; rw [keep_mem h]; simp
  | c :: r, cur, x, h => by
    rw [lnsA] at h
    split at h
    · rcases List.mem_append.1 h with h | h
      · rw [keep_mem h]; simp
      · have := lnsA_mem r [] x h; simp at this ⊢; omega
    · have := lnsA_mem r (cur ++ [c]) x h; simp at this ⊢; omega
theorem lns_mem {t x : List Nat} (h : x ∈ lns t) : x.length ≤ t.length := by have := lnsA_mem t [] x h; simpa using this

/-- Where a byte first stands. -/
def ix (c : Nat) (l : List Nat) : Int := Lib.indexByte (Lib.bytesOf (l.map Int.ofNat)) (UInt8.ofNat c)
theorem bytesOf_get (l : List Nat) (k : Nat) : (Lib.bytesOf (l.map Int.ofNat))[k]? = (l[k]?).map UInt8.ofNat := by
  simp only [Lib.bytesOf, List.getElem?_map, Option.map_map]
  congr 1
theorem u8_inj {a b : Nat} (ha : a < 256) (hb : b < 256) (h : UInt8.ofNat a = UInt8.ofNat b) : a = b := by
  have := congrArg UInt8.toNat h
  simp at this
  omega
theorem ix_none {c : Nat} {l : List Nat} (h : ix c l = -1) : c ∉ l := fun hm => by
  obtain ⟨k, hk⟩ := List.mem_iff_getElem?.1 hm
  exact Lib.indexByte_none h k (by rw [bytesOf_get, hk]; rfl)
theorem ix_some {c : Nat} (hc : c < 256) {l : List Nat} (hb : ∀ b ∈ l, b < 256) {o : Nat} (h : ix c l = (o : Int)) : o < l.length ∧ l = l.take o ++ c :: l.drop (o + 1) ∧ c ∉ l.take o := by
  obtain ⟨h1, h2⟩ := Lib.indexByte_some h
  rw [bytesOf_get] at h1
  cases e : l[o]? with
  | none => rw [e] at h1; cases h1
  | some b =>
    rw [e] at h1
    obtain ⟨lt, e'⟩ := List.getElem?_eq_some_iff.1 e
    have hbc : b = c := u8_inj (hb b (List.mem_of_getElem? e)) hc (by simpa using h1)
    subst hbc
    refine ⟨lt, ?_, fun hm => ?_⟩
    · rw [← e', List.getElem_cons_drop, List.take_append_drop]
    · obtain ⟨k, hk⟩ := List.mem_iff_getElem?.1 hm
      rw [List.getElem?_take] at hk
      split at hk
      · rename_i hlt
        exact h2 k hlt (by rw [bytesOf_get, hk]; rfl)
      · cases hk
theorem ix_ge (c : Nat) (l : List Nat) : -1 ≤ ix c l := Lib.indexByte_ge _ _
end ScM
end Go.Proofs.Ytkjnklagjhhhkaa
