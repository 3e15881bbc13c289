/-
  Ours: letters as lists of bytes; what is read out of them. No Go in sight. (gen_rpm.py)
-/
import Derived.Test.YtpkgdkgbbbbaoaaDoorMrtMath
import Derived.Lib.IndexMore
import Derived.Lib.IndexLaws
import Derived.Lib.Strings
import Derived.Lib.ParseIntBTie
namespace Go.Proofs.YtpkgdkgbbbbaoaaDoor
open Go.Lib
namespace RpM
/-- What the letters of a kind say around their two slots; is the amount the first? -/
structure Wd where
  a : List UInt8
  b : List UInt8
  c : List UInt8
  f : Bool
def wrd : Nat → Wd
  | 1 => ⟨[116, 104, 101, 32, 112, 114, 111, 109, 105, 115, 101, 32, 116, 111, 32, 112, 97, 121, 32, 111, 110, 32, 108, 111, 97, 110, 32], [32, 119, 97, 115, 32, 110, 111, 116, 32, 107, 101, 112, 116, 59, 32], [32, 105, 115, 32, 112, 97, 115, 116, 32, 100, 117, 101, 46], false⟩
  | 2 => ⟨[108, 111, 97, 110, 32], [32, 105, 115, 32, 105, 110, 32, 97, 114, 114, 101, 97, 114, 115, 59, 32], [32, 105, 115, 32, 112, 97, 115, 116, 32, 100, 117, 101, 46], false⟩
  | 3 => ⟨[105, 110, 116, 101, 114, 101, 115, 116, 32, 111, 110, 32, 108, 111, 97, 110, 32], [32, 105, 115, 32, 104, 101, 108, 100, 32, 105, 110, 32, 115, 117, 115, 112, 101, 110, 115, 101, 32, 102, 114, 111, 109, 32, 110, 111, 119, 32, 111, 110, 59, 32], [32, 105, 115, 32, 112, 97, 115, 116, 32, 100, 117, 101, 46], false⟩
  | 4 => ⟨[108, 111, 97, 110, 32], [32, 119, 97, 115, 32, 99, 104, 97, 114, 103, 101, 100, 32, 111, 102, 102, 59, 32], [32, 119, 97, 115, 32, 111, 119, 101, 100, 46], false⟩
  | 5 => ⟨[97, 32, 108, 97, 116, 101, 32, 102, 101, 101, 32, 111, 102, 32], [32, 119, 97, 115, 32, 99, 104, 97, 114, 103, 101, 100, 32, 116, 111, 32, 108, 111, 97, 110, 32], [46], true⟩
  | 6 => ⟨[108, 111, 97, 110, 32], [32, 105, 115, 32, 117, 112, 32, 116, 111, 32, 100, 97, 116, 101, 32, 97, 103, 97, 105, 110, 59, 32], [32, 105, 115, 32, 112, 97, 115, 116, 32, 100, 117, 101, 46], false⟩
  | 7 => ⟨[108, 111, 97, 110, 32], [32, 104, 97, 115, 32, 97, 32, 110, 101, 119, 32, 112, 108, 97, 110, 59, 32, 105, 116, 32, 105, 115, 32, 111, 118, 101, 114, 32], [46], false⟩
  | 8 => ⟨[108, 111, 97, 110, 32], [32, 105, 115, 32, 112, 97, 105, 100, 32, 111, 102, 102, 59, 32], [32, 105, 115, 32, 111, 119, 101, 100, 46], false⟩
  | 9 => ⟨[97, 32, 112, 97, 121, 109, 101, 110, 116, 32, 111, 102, 32], [32, 111, 110, 32, 108, 111, 97, 110, 32], [32, 119, 97, 115, 32, 114, 101, 116, 117, 114, 110, 101, 100, 46], true⟩
  | _ => ⟨[], [], [], false⟩
def notB : List UInt8 := [78, 111, 116, 105, 99, 101, 32]
def ofB : List UInt8 := [32, 111, 102, 32]
def colB : List UInt8 := [58, 32]
/-- A kind's words with a number and an amount laid in. -/
def lay (k : Nat) (num amt : List UInt8) : List UInt8 := (wrd k).a ++ (if (wrd k).f then amt else num) ++ (wrd k).b ++ (if (wrd k).f then num else amt) ++ (wrd k).c
def letT (k : Nat) (id date num amt : List UInt8) : List UInt8 := notB ++ id ++ ofB ++ date ++ colB ++ lay k num amt
def slots (k : Nat) (t : List UInt8) : List UInt8 × List UInt8 :=
  let q := cut (trimSuffix (trimPrefix t (wrd k).a) (wrd k).c) (wrd k).b
  if (wrd k).f then (q.2.1, q.1) else (q.1, q.2.1)
structure Pt where
  id : List UInt8
  date : List UInt8
  num : List UInt8
  amt : List UInt8
def parts (k : Nat) (t : List UInt8) : Pt :=
  ⟨(cut (trimPrefix t notB) ofB).1, (cut (cut (trimPrefix t notB) ofB).2.1 colB).1, (slots k (cut (cut (trimPrefix t notB) ofB).2.1 colB).2.1).1, (slots k (cut (cut (trimPrefix t notB) ofB).2.1 colB).2.1).2⟩

/-- Digits, '-' and '.' alone. -/
def isCl (b : UInt8) : Bool := decide (48 ≤ b.toNat ∧ b.toNat ≤ 57) || b == 45 || b == 46
def clean (x : List UInt8) : Prop := x.all isCl = true

theorem trimP (p x : List UInt8) : trimPrefix (p ++ x) p = x := by
  unfold trimPrefix hasPrefix
  rw [if_pos (by rw [List.isPrefixOf_iff_prefix]; exact ⟨x, rfl⟩), List.drop_left]
theorem trimS (x p : List UInt8) : trimSuffix (x ++ p) p = x := by
  unfold trimSuffix hasSuffix
  rw [if_pos (by rw [List.isSuffixOf_iff_suffix]; exact ⟨x, rfl⟩), List.length_append, Nat.add_sub_cancel, List.take_left]
theorem cut_is (x s r : List UInt8) (c : UInt8) (t : List UInt8) (hs : s = c :: t) (hx : ∀ b ∈ x, b ≠ c) : cut (x ++ s ++ r) s = (x, r, true) := by
  have hi : index (x ++ s ++ r) s = x.length := by
    refine index_first (by simp) ?_ fun j hj => ?_
    · unfold occAt
      rw [List.append_assoc, List.drop_left, List.isPrefixOf_iff_prefix]
      exact ⟨r, rfl⟩
    · cases ho : occAt (x ++ s ++ r) s j with
      | false => rfl
      | true =>
        exfalso
        have h := occAt_head hs ho
        rw [List.append_assoc, List.getElem?_append_left hj, List.getElem?_eq_getElem hj] at h
        exact hx _ (List.getElem_mem hj) (Option.some.inj h)
  unfold cut
  rw [hi, if_pos (by omega)]
  have e : ((x.length : Int).toNat + s.length) = (x ++ s).length := by simp
  rw [e, List.drop_left, Int.toNat_natCast, List.append_assoc, List.take_left]
theorem clean_ne {x : List UInt8} (h : clean x) (c : UInt8) (hc : isCl c = false) : ∀ b ∈ x, b ≠ c := fun b hb e => by
  have := List.all_eq_true.1 h b hb
  rw [e, hc] at this
  cases this
theorem wrd_b (k : Nat) (h1 : 1 ≤ k) (h9 : k ≤ 9) : ∃ t, (wrd k).b = 32 :: t := by
  have : k = 1 ∨ k = 2 ∨ k = 3 ∨ k = 4 ∨ k = 5 ∨ k = 6 ∨ k = 7 ∨ k = 8 ∨ k = 9 := by omega
  rcases this with rfl | rfl | rfl | rfl | rfl | rfl | rfl | rfl | rfl <;> exact ⟨_, rfl⟩
theorem slots_lay (k : Nat) (h1 : 1 ≤ k) (h9 : k ≤ 9) (num amt : List UInt8) (hn : clean num) (ha : clean amt) : slots k (lay k num amt) = (num, amt) := by
  obtain ⟨t, ht⟩ := wrd_b k h1 h9
  unfold slots lay
  rw [List.append_assoc, List.append_assoc, List.append_assoc, trimP, ← List.append_assoc, ← List.append_assoc, trimS]
  cases hf : (wrd k).f with
  | true =>
    simp only [if_true]
    rw [cut_is amt (wrd k).b num 32 t ht (clean_ne ha 32 rfl)]
  | false =>
    simp only [Bool.false_eq_true, if_false]
    rw [cut_is num (wrd k).b amt 32 t ht (clean_ne hn 32 rfl)]
theorem parts_let (k : Nat) (h1 : 1 ≤ k) (h9 : k ≤ 9) (id date num amt : List UInt8) (hi : clean id) (hd : clean date) (hn : clean num) (ha : clean amt) : parts k (letT k id date num amt) = ⟨id, date, num, amt⟩ := by
  have e1 : trimPrefix (letT k id date num amt) notB = id ++ ofB ++ (date ++ colB ++ lay k num amt) := by
    unfold letT
    rw [show notB ++ id ++ ofB ++ date ++ colB ++ lay k num amt = notB ++ (id ++ ofB ++ (date ++ colB ++ lay k num amt)) by simp only [List.append_assoc], trimP]
  have e2 : cut (id ++ ofB ++ (date ++ colB ++ lay k num amt)) ofB = (id, date ++ colB ++ lay k num amt, true) := cut_is _ _ _ 32 _ rfl (clean_ne hi 32 rfl)
  have e3 : cut (date ++ colB ++ lay k num amt) colB = (date, lay k num amt, true) := cut_is _ _ _ 58 _ rfl (clean_ne hd 58 rfl)
  unfold parts
  rw [e1, e2]
  simp only []
  rw [e3]
  simp only []
  rw [slots_lay k h1 h9 num amt hn ha]
theorem filter_clean {x : List UInt8} (h : clean x) : x.filter (fun b => !isCl b) = [] := by
  rw [List.filter_eq_nil_iff]
  intro b hb
  rw [List.all_eq_true.1 h b hb]
  decide
def skel (k : Nat) : List UInt8 := (letT k [] [] [] []).filter (fun b => !isCl b)
theorem filter_let (k : Nat) (id date num amt : List UInt8) (hi : clean id) (hd : clean date) (hn : clean num) (ha : clean amt) : (letT k id date num amt).filter (fun b => !isCl b) = skel k := by
  unfold skel letT lay
  simp only [List.filter_append, filter_clean hi, filter_clean hd, List.filter_nil]
  cases (wrd k).f <;> simp only [if_true, Bool.false_eq_true, if_false, filter_clean hn, filter_clean ha, List.filter_nil]
theorem skel_inj : ∀ j k : Fin 10, 1 ≤ j.val → 1 ≤ k.val → skel j.val = skel k.val → j = k := by decide
theorem letT_inj {j k : Nat} (j1 : 1 ≤ j) (j9 : j ≤ 9) (k1 : 1 ≤ k) (k9 : k ≤ 9) {i d n a i' d' n' a' : List UInt8} (hi : clean i) (hd : clean d) (hn : clean n) (ha : clean a) (hi' : clean i') (hd' : clean d') (hn' : clean n') (ha' : clean a')
    (h : letT j i d n a = letT k i' d' n' a') : j = k ∧ i = i' ∧ d = d' ∧ n = n' ∧ a = a' := by
  have e := filter_let j i d n a hi hd hn ha
  rw [h, filter_let k _ _ _ _ hi' hd' hn' ha'] at e
  have := skel_inj ⟨j, by omega⟩ ⟨k, by omega⟩ j1 k1 e.symm
  have hjk : j = k := congrArg Fin.val this
  subst hjk
  have p := parts_let j j1 j9 i d n a hi hd hn ha
  rw [h, parts_let j j1 j9 _ _ _ _ hi' hd' hn' ha'] at p
  injection p with p1 p2 p3 p4
  exact ⟨rfl, p1.symm, p2.symm, p3.symm, p4.symm⟩

theorem cl_dig (k : Nat) (h : k < 10) : isCl (UInt8.ofNat (48 + k)) = true := by
  unfold isCl
  rw [u8_nat (by omega), decide_eq_true (by omega)]
  rfl
theorem clean_dec : ∀ n : Nat, clean (decDigits n) := by
  intro n
  induction n using Nat.strongRecOn with
  | ind n ih =>
    unfold clean
    by_cases h : n < 10
    · rw [decDigits, dif_pos h]
      rw [List.all_cons, cl_dig n h]
      rfl
    · rw [decDigits, dif_neg h, List.all_append, ih (n / 10) (by omega), List.all_cons, cl_dig (n % 10) (by omega)]
      rfl
theorem clean_amt (n : Nat) : clean (amtL n) := by
  unfold clean amtL
  rw [List.all_append, clean_dec (n / 100), List.all_cons, List.all_cons, cl_dig (n % 100 / 10) (by omega), List.all_cons, cl_dig (n % 10) (by omega)]
  rfl
theorem atoi_dec (n : Nat) (h : n ≤ 9223372036854775807) : atoiAll (decDigits n) = .ok (n : Int) := by
  rw [← parseIntB_64]
  obtain ⟨c, r, e, c0, c1⟩ := dec_head n
  rw [e, parseIntB_plain _ _ _ (by omega) (by omega), ← e]
  have hp : parseUintB 64 (decDigits n) = .ok n := by
    unfold parseUintB
    rw [if_neg (by rw [e]; simp), show 2 ^ 64 - 1 = 18446744073709551615 by decide]
    have := par_dec [] n (by omega)
    rw [List.append_nil] at this
    rw [this]
    rfl
  rw [hp]
  simp only [signlessC]
  rw [if_neg (by simp; omega)]
end RpM
end Go.Proofs.YtpkgdkgbbbbaoaaDoor
