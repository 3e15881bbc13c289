/-
  Ours: a line read as an operation, by lists of bytes. No Go in sight.
-/
import Derived.Test.YtkjnklagjhhhkaaGreatDoorScF
import Derived.Test.YtkjnklagjhhhkaaGreatDoorScDig
import Derived.Test.YtkjnklagjhhhkaaGreatDoorMrtWalk1
import Derived.Lib.Strings
import Derived.Lib.Split
import Derived.Lib.SplitLaws
namespace Go.Proofs.YtkjnklagjhhhkaaGreatDoor
namespace ScF
open Go.Lib

def neg (l : List UInt8) : Bool := hasPrefix l [45]
def body (l : List UInt8) : List UInt8 := trimPrefix l [45]
def isD (c : UInt8) : Bool := decide (48 ≤ c.toNat ∧ c.toNat ≤ 57)
def digs (l : List UInt8) : Bool := l.all isD
def signV (b : Bool) (n : Nat) : Int := if b then -(n : Int) else (n : Int)
def rdW (l : List UInt8) : Option Int :=
  if (body l).length = 0 ∨ 18 < (body l).length then none
  else if ((body l).getD 0 0).toNat = 48 ∧ l ≠ [48] then none
  else if digs (body l) then some (signV (neg l) (valD (body l))) else none
def planR (l : List UInt8) : Option Int := if l = wLevel then some 0 else if l = wEqual then some 1 else if l = wBalloon then some 2 else none
open Classical in
noncomputable def amtR (l : List UInt8) : Option Int := if h : ∃ x, i64 x ∧ fmtL x = l then some h.choose else none
theorem amtR_of {l : List UInt8} {p : Int × Bool} (h : PrOk l p) : p.1 = (amtR l).getD 0 ∧ p.2 = (amtR l).isSome := by
  obtain ⟨v, b⟩ := p
  cases b with
  | true =>
    obtain ⟨h1, h2, h3⟩ := h.1 rfl
    have hx : ∃ x, i64 x ∧ fmtL x = l := ⟨v, ⟨h2, h3⟩, h1⟩
    have e : amtR l = some hx.choose := dif_pos hx
    have hc := hx.choose_spec
    have : hx.choose = v := fmt_inj hc.1.1 hc.1.2 h2 h3 (by rw [hc.2]; exact h1.symm)
    rw [e, this]; exact ⟨rfl, rfl⟩
  | false =>
    obtain ⟨h1, h2⟩ := h.2 rfl
    have e : amtR l = none := dif_neg (fun ⟨x, hx, e⟩ => h2 x hx.1 hx.2 e)
    rw [e]; exact ⟨h1, rfl⟩
theorem amtR_fmt (x : Int) (h : i64 x) : amtR (fmtL x) = some x := by
  have hx : ∃ y, i64 y ∧ fmtL y = fmtL x := ⟨x, h, rfl⟩
  have e : amtR (fmtL x) = some hx.choose := dif_pos hx
  have hc := hx.choose_spec
  rw [e, fmt_inj hc.1.1 hc.1.2 h.1 h.2 hc.2]
theorem amtR_some {l : List UInt8} {x : Int} (h : amtR l = some x) : i64 x ∧ fmtL x = l := by
  unfold amtR at h
  split at h
  · rename_i hx
    injection h with h
    rw [← h]; exact hx.choose_spec
  · cases h

noncomputable def layS (o : Cm) (s : Nat) (l : List UInt8) : Option Cm := match s with
  | 0 => (rdW l).map fun n => { o with loan := n }
  | 1 => (rdW l).map fun n => { o with rate := n }
  | 2 => (rdW l).map fun n => { o with count := n }
  | 3 => (rdW l).map fun n => { o with days := n }
  | 4 => (amtR l).map fun n => { o with amount := n }
  | 5 => (planR l).map fun n => { o with days := n }
  | 6 => if l.length = 0 then none else some { o with text := l }
  | _ => none
inductive PR where
  | ok (o : Cm)
  | bad (e p : Nat)
noncomputable def readF : List Nat → List (List UInt8) → Nat → Cm → PR
  | [], _, _, o => .ok o
  | _ :: _, [], _, _ => .bad 0 0
  | s :: r, f :: fs, p, o => match layS o s f with
    | none => .bad 182 p
    | some o' => readF r fs (p + f.length + 1) o'
/-- The parts between blanks. -/
def spl : List UInt8 → List (List UInt8)
  | [] => [[]]
  | c :: r => if c = 32 then [] :: spl r else match spl r with
    | [] => [[c]]
    | f :: fs => (c :: f) :: fs
theorem spl_ne : ∀ l, spl l ≠ []
  | [] => by simp [spl]
  | c :: r => by
    rw [spl]
    split
    · simp
    · split <;> simp
theorem spl_no : ∀ l : List UInt8, 32 ∉ l → spl l = [l]
  | [], _ => rfl
  | c :: r, h => by
    have h1 : ¬ c = 32 := fun e => h (by simp [e])
    rw [spl, if_neg h1, spl_no r (fun e => h (by simp [e]))]
theorem spl_cut : ∀ (a b : List UInt8), 32 ∉ a → spl (a ++ 32 :: b) = a :: spl b
  | [], b, _ => by simp [spl]
  | c :: a, b, h => by
    have h1 : ¬ c = 32 := fun e => h (by simp [e])
    rw [List.cons_append, spl, if_neg h1, spl_cut a b (fun e => h (by simp [e]))]
theorem cut_or : ∀ l : List UInt8, 32 ∉ l ∨ ∃ a b, l = a ++ 32 :: b ∧ 32 ∉ a
  | [] => .inl (by simp)
  | c :: r => by
    by_cases hc : c = 32
    · exact .inr ⟨[], r, by rw [hc]; rfl, by simp⟩
    · rcases cut_or r with h | ⟨a, b, e, h⟩
      · exact .inl (by simp [Ne.symm hc, h])
      · exact .inr ⟨c :: a, b, by rw [e]; rfl, by simp [Ne.symm hc, h]⟩
theorem index_no : ∀ l : List UInt8, 32 ∉ l → Lib.index l [32] = -1
  | [], _ => rfl
  | c :: r, h => by
    have h1 : ¬ c = 32 := fun e => h (by simp [e])
    have ih := index_no r (fun e => h (by simp [e]))
    unfold Lib.index
    rw [ih]
    have : ([32] : List UInt8).isPrefixOf (c :: r) = false := by simp [List.isPrefixOf, Ne.symm h1]
    rw [this]; rfl
theorem index_cut : ∀ (a b : List UInt8), 32 ∉ a → Lib.index (a ++ 32 :: b) [32] = (a.length : Int)
  | [], b, _ => by simp [Lib.index, List.isPrefixOf]
  | c :: a, b, h => by
    have h1 : ¬ c = 32 := fun e => h (by simp [e])
    have ih := index_cut a b (fun e => h (by simp [e]))
    rw [List.cons_append]
    unfold Lib.index
    rw [ih]
    have : ([32] : List UInt8).isPrefixOf (c :: (a ++ 32 :: b)) = false := by simp [List.isPrefixOf, Ne.symm h1]
    rw [this]
    have h2 : (((a.length : Nat) : Int) == -1) = false := beq_eq_false_iff_ne.2 (by omega)
    simp [h2]
theorem splitK_spl : ∀ (n : Nat) (l : List UInt8), l.length ≤ n → Lib.splitK [32] 0 (Lib.count l [32]) l = spl l := by
  intro n
  induction n with
  | zero =>
    intro l h
    have : l = [] := List.eq_nil_of_length_eq_zero (by omega)
    subst this
    rw [Lib.count_one]; rfl
  | succ n ih =>
    intro l h
    rcases cut_or l with hn | ⟨a, b, e, ha⟩
    · rw [Lib.count_one, List.count_eq_zero.2 hn, spl_no l hn]; rfl
    · subst e
      have hc : Lib.count (a ++ 32 :: b) [32] = Lib.count b [32] + 1 := by
        rw [Lib.count_one, Lib.count_one, List.count_append, List.count_eq_zero.2 ha, List.count_cons_self]; omega
      rw [hc, spl_cut a b ha, Lib.splitK, index_cut a b ha]
      have h2 : (((a.length : Nat) : Int) == -1) = false := beq_eq_false_iff_ne.2 (by omega)
      rw [h2]
      simp only [Int.toNat_natCast, Nat.add_zero, List.length_cons, List.length_nil, Nat.zero_add]
      have e1 : (a ++ 32 :: b).take a.length = a := List.take_left' rfl
      have e2 : (a ++ 32 :: b).drop (a.length + 1) = b := by
        rw [← List.drop_drop, List.drop_left' rfl]; rfl
      rw [e1, e2, ih b (by simp at h; omega)]
      rfl
theorem spl_count : ∀ (n : Nat) (l : List UInt8), l.length ≤ n → (spl l).length = Lib.count l [32] + 1 := by
  intro n
  induction n with
  | zero =>
    intro l h
    have : l = [] := List.eq_nil_of_length_eq_zero (by omega)
    subst this
    rw [Lib.count_one]; rfl
  | succ n ih =>
    intro l h
    rcases cut_or l with hn | ⟨a, b, e, ha⟩
    · rw [Lib.count_one, List.count_eq_zero.2 hn, spl_no l hn]; rfl
    · subst e
      rw [spl_cut a b ha, List.length_cons, ih b (by simp at h; omega), Lib.count_one, Lib.count_one, List.count_append, List.count_eq_zero.2 ha, List.count_cons_self]; omega
/-- The parts of a text, as the library cuts it. -/
theorem split_is (l : List UInt8) : (Lib.splitB ⟨#[32]⟩ 0 (Lib.countB ⟨l.toArray⟩ ⟨#[32]⟩) ⟨l.toArray⟩) = (spl l).map (fun f => (⟨f.toArray⟩ : ByteArray)) := by
  have h := Lib.splitB_data ⟨#[32]⟩ 0 (Lib.countB ⟨l.toArray⟩ ⟨#[32]⟩) ⟨l.toArray⟩
  have h2 : (Lib.splitB ⟨#[32]⟩ 0 (Lib.countB ⟨l.toArray⟩ ⟨#[32]⟩) ⟨l.toArray⟩).map (·.data.toList) = spl l := h.trans (splitK_spl _ l (Nat.le_refl _))
  rw [← h2, List.map_map]
  have : ((fun f : List UInt8 => (⟨f.toArray⟩ : ByteArray)) ∘ fun x : ByteArray => x.data.toList) = id := by funext x; cases x; simp
  rw [this, List.map_id]
theorem split_len (l : List UInt8) : Lib.countB ⟨l.toArray⟩ ⟨#[32]⟩ + 1 = (spl l).length := (spl_count _ l (Nat.le_refl _)).symm

def kindW (l : List UInt8) : Option Nat := ((List.range 22).find? fun k => decide (1 ≤ k) && decide (wordN k = l))
noncomputable def readL (l : List UInt8) : PR :=
  if 100 < l.length then .bad 1 0
  else match kindW ((spl l).getD 0 []) with
    | none => .bad 180 0
    | some k => if (spl l).length - 1 ≠ (slotN k).length then .bad 181 l.length
      else readF (slotN k) ((spl l).drop 1) (((spl l).getD 0 []).length + 1) ⟨(k : Int), 0, 0, 0, 0, 0, []⟩
theorem kindW_some {l : List UInt8} {k : Nat} (h : kindW l = some k) : 1 ≤ k ∧ k < 22 ∧ wordN k = l := by
  unfold kindW at h
  have h1 := List.find?_some h
  have h2 := List.mem_of_find?_eq_some h
  simp at h1 h2
  exact ⟨h1.1, h2, h1.2⟩
theorem kindW_none {l : List UInt8} (h : kindW l = none) : ∀ k, 1 ≤ k → k < 22 → wordN k ≠ l := fun k h1 h2 e => by
  unfold kindW at h
  rw [List.find?_eq_none] at h
  exact h k (by simpa using h2) (by simp [h1, e])
theorem word_inj : ∀ j, j < 22 → ∀ k, k < 22 → 1 ≤ j → wordN j = wordN k → j = k := by decide
theorem kindW_word {k : Nat} (h1 : 1 ≤ k) (h2 : k < 22) : kindW (wordN k) = some k := by
  cases h : kindW (wordN k) with
  | none => exact absurd rfl (kindW_none h k h1 h2)
  | some j =>
    obtain ⟨j1, j2, e⟩ := kindW_some h
    rw [word_inj j j2 k h2 j1 e]
end ScF
end Go.Proofs.YtkjnklagjhhhkaaGreatDoor
