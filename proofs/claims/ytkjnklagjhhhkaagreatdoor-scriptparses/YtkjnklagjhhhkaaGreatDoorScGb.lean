/-
  Ours: what Format tells, Parse reads; and back. No Go in sight.
-/
import Derived.Test.YtkjnklagjhhhkaaGreatDoorScEq
namespace Go.Proofs.YtkjnklagjhhhkaaGreatDoor
namespace ScF
open Go.Lib

/-! Numbers. -/
theorem digs_dec (n : Nat) : digs (decDigits n) = true := by
  unfold digs
  rw [List.all_eq_true]
  intro x hx
  have := dec_dig n x hx
  exact decide_eq_true this
theorem dec_no32 (n : Nat) : (32 : UInt8) ∉ decDigits n := fun h => by have := dec_dig n _ h; simp at this
theorem itoa_no32 (n : Int) : (32 : UInt8) ∉ itoa n := by
  unfold itoa
  split
  · intro h
    rcases List.mem_cons.1 h with h | h
    · exact absurd h (by decide)
    · exact dec_no32 _ h
  · exact dec_no32 _
theorem dec_len' (n : Nat) : 0 < (decDigits n).length := by rw [decDigits_length]; exact nDigits_pos n
theorem dec_ne45 (n : Nat) : (decDigits n).getD 0 0 ≠ 45 := fun e => by
  have hl := (dec_len' n)
  have hm : (decDigits n).getD 0 0 ∈ decDigits n := by rw [List.getD_eq_getElem?_getD, List.getElem?_eq_getElem hl]; exact List.getElem_mem _
  have := dec_dig n _ hm
  rw [e] at this
  simp at this
theorem body_pos {l : List UInt8} (h : l.getD 0 0 ≠ 45) : neg l = false ∧ body l = l := by
  have hn : neg l = false := by
    unfold neg hasPrefix
    cases l with
    | nil => rfl
    | cons c r =>
      have : c ≠ 45 := h
      simp [List.isPrefixOf, Ne.symm this]
  exact ⟨hn, by unfold body trimPrefix; rw [show hasPrefix l [45] = false from hn]; rfl⟩
theorem body_neg (r : List UInt8) : neg (45 :: r) = true ∧ body (45 :: r) = r := by
  have hn : neg (45 :: r) = true := by simp [neg, hasPrefix, List.isPrefixOf]
  exact ⟨hn, by unfold body trimPrefix; rw [show hasPrefix (45 :: r) [45] = true from hn]; rfl⟩
theorem rdW_itoa (n : Int) (h0 : -999999999999999999 ≤ n) (h1 : n ≤ 999999999999999999) : rdW (itoa n) = some n := by
  have h18 : (10 : Nat) ^ (17 + 1) = 1000000000000000000 := by decide
  by_cases hn : n < 0
  · have e : itoa n = 45 :: decDigits n.natAbs := by unfold itoa; rw [if_pos hn]
    obtain ⟨b1, b2⟩ := body_neg (decDigits n.natAbs)
    have hl : (decDigits n.natAbs).length ≤ 18 := by rw [decDigits_length]; exact nDigits_le 17 _ (by omega)
    have hp := dec_len' n.natAbs
    have hz : ¬ (((decDigits n.natAbs).getD 0 0).toNat = 48 ∧ (45 :: decDigits n.natAbs) ≠ [48]) := fun h => by
      have := dec_zero n.natAbs (UInt8.toNat_inj.1 h.1)
      omega
    rw [e]
    unfold rdW
    rw [b1, b2, if_neg (by omega), if_neg hz, digs_dec, valD_dec]
    simp only [if_true, signV]
    congr 1; omega
  · have e : itoa n = decDigits n.toNat := by unfold itoa; rw [if_neg hn]
    obtain ⟨b1, b2⟩ := body_pos (dec_ne45 n.toNat)
    have hl : (decDigits n.toNat).length ≤ 18 := by rw [decDigits_length]; exact nDigits_le 17 _ (by omega)
    have hp := dec_len' n.toNat
    have hz : ¬ (((decDigits n.toNat).getD 0 0).toNat = 48 ∧ decDigits n.toNat ≠ [48]) := fun h => by
      have hz := dec_zero n.toNat (UInt8.toNat_inj.1 h.1)
      apply h.2
      rw [hz, decDigits, dif_pos (by decide)]; rfl
    rw [e]
    unfold rdW
    rw [b1, b2, if_neg (by omega), if_neg hz, digs_dec, valD_dec]
    simp only [if_true, signV]
    show some ((n.toNat : Nat) : Int) = some n
    congr 1; omega
theorem dec_val : ∀ (k : Nat) (d : List UInt8), d.length = k → digs d = true → 0 < d.length → ((d.getD 0 0).toNat = 48 → d = [48]) → decDigits (valD d) = d ∧ ((d.getD 0 0).toNat ≠ 48 → 0 < valD d) := by
  intro k
  induction k with
  | zero => intro d h _ h1 _; omega
  | succ k ih =>
    intro d h hd _ hz
    have hne : d ≠ [] := fun e => by rw [e] at h; simp at h
    obtain ⟨a, x, rfl⟩ : ∃ a x, d = a ++ [x] := ⟨d.dropLast, d.getLast hne, (List.dropLast_concat_getLast hne).symm⟩
    have hd2 : digs a = true ∧ isD x = true := by
      unfold digs at hd ⊢
      rw [List.all_append] at hd
      simpa using hd
    have hx : 48 ≤ x.toNat ∧ x.toNat ≤ 57 := of_decide_eq_true hd2.2
    have hxe : UInt8.ofNat (48 + (x.toNat - 48)) = x := by rw [show 48 + (x.toNat - 48) = x.toNat by omega]; simp
    rw [valD_snoc]
    by_cases ha : a = []
    · subst ha
      simp only [List.nil_append]
      have hv : valD ([] : List UInt8) = 0 := rfl
      rw [hv]
      refine ⟨?_, fun h => ?_⟩
      · rw [decDigits, dif_pos (by omega), show 10 * 0 + (x.toNat - 48) = x.toNat - 48 by omega, hxe]
      · have : x.toNat ≠ 48 := h
        omega
    · have hal : 0 < a.length := List.length_pos_iff.2 ha
      have e0 : (a ++ [x]).getD 0 0 = a.getD 0 0 := by rw [List.getD_eq_getElem?_getD, List.getElem?_append_left hal, ← List.getD_eq_getElem?_getD]
      have hnz : (a.getD 0 0).toNat ≠ 48 := fun e => by
        have h1 := hz (by rw [e0]; exact e)
        have hlen : (a ++ [x]).length = 1 := by rw [h1]; rfl
        rw [List.length_append] at hlen
        simp only [List.length_cons, List.length_nil] at hlen
        omega
      obtain ⟨i1, i2⟩ := ih a (by simp at h; omega) hd2.1 hal (fun e => absurd e hnz)
      have hvp := i2 hnz
      refine ⟨?_, fun _ => by omega⟩
      rw [decDigits, dif_neg (by omega), show (10 * valD a + (x.toNat - 48)) / 10 = valD a by omega, show (10 * valD a + (x.toNat - 48)) % 10 = x.toNat - 48 by omega, hxe, i1]
theorem whole_rdW {t : List UInt8} {n : Int} (h : rdW t = some n) : wholeT n = some t := by
  unfold rdW at h
  split at h
  · cases h
  · rename_i h1
    split at h
    · cases h
    · rename_i h2
      split at h
      · rename_i h3
        injection h with h
        have hl : 0 < (body t).length := by omega
        have h18 : (10 : Nat) ^ 18 = 1000000000000000000 := by decide
        have hlt := valD_lt _ h3
        have hlt2 : valD (body t) < 1000000000000000000 := by
          have := Nat.pow_le_pow_right (n := 10) (by decide) (show (body t).length ≤ 18 by omega)
          omega
        by_cases hs : t.getD 0 0 = 45
        · cases t with
          | nil => simp [body, trimPrefix, hasPrefix, List.isPrefixOf] at hl
          | cons c r =>
            have hc : c = 45 := hs
            subst hc
            obtain ⟨b1, b2⟩ := body_neg r
            rw [b1, b2] at h
            rw [b2] at h1 h2 h3 hl hlt2
            have hnz : (r.getD 0 0).toNat ≠ 48 := fun e => h2 ⟨e, by simp⟩
            obtain ⟨d1, d2⟩ := dec_val r.length r rfl h3 hl (fun e => absurd e hnz)
            have hv := d2 hnz
            have hn : n = -((valD r : Nat) : Int) := by rw [← h]; rfl
            unfold wholeT
            rw [if_pos (by omega)]
            congr 1
            unfold itoa
            rw [if_pos (by omega), show n.natAbs = valD r by omega, d1]
        · obtain ⟨b1, b2⟩ := body_pos hs
          rw [b1, b2] at h
          rw [b2] at h1 h2 h3 hl hlt2
          have hz : (t.getD 0 0).toNat = 48 → t = [48] := fun e => Classical.byContradiction fun hne => h2 ⟨e, hne⟩
          obtain ⟨d1, -⟩ := dec_val t.length t rfl h3 hl hz
          have hn : n = ((valD t : Nat) : Int) := by rw [← h]; rfl
          unfold wholeT
          rw [if_pos (by omega)]
          congr 1
          unfold itoa
          rw [if_neg (by omega), show n.toNat = valD t by omega, d1]
      · cases h
theorem plan_of {n : Int} {t : List UInt8} (h : planW n = some t) : planR t = some n ∧ 32 ∉ t := by
  unfold planW at h
  split at h
  · rename_i e; injection h with h; subst h; rw [e]; exact ⟨rfl, by decide⟩
  · split at h
    · rename_i e; injection h with h; subst h; rw [e]; exact ⟨rfl, by decide⟩
    · split at h
      · rename_i e; injection h with h; subst h; rw [e]; exact ⟨rfl, by decide⟩
      · cases h
theorem plan_to {n : Int} {t : List UInt8} (h : planR t = some n) : planW n = some t := by
  unfold planR at h
  split at h
  · rename_i e; injection h with h; subst h; rw [e]; rfl
  · split at h
    · rename_i e; injection h with h; subst h; rw [e]; rfl
    · split at h
      · rename_i e; injection h with h; subst h; rw [e]; rfl
      · cases h
theorem clean_iff (t : List UInt8) : clean t = true ↔ 32 ∉ t ∧ 10 ∉ t := by
  unfold clean
  rw [List.all_eq_true]
  constructor
  · intro h
    refine ⟨fun hm => ?_, fun hm => ?_⟩
    · have := h _ hm; simp at this
    · have := h _ hm; simp at this
  · intro h x hx
    have h1 : x ≠ 32 := fun e => h.1 (e ▸ hx)
    have h2 : x ≠ 10 := fun e => h.2 (e ▸ hx)
    simp [h1, h2]

/-! From an operation to its line and back. -/
def setS (o b : Cm) : Nat → Cm
  | 0 => { b with loan := o.loan }
  | 1 => { b with rate := o.rate }
  | 2 => { b with count := o.count }
  | 3 => { b with days := o.days }
  | 4 => { b with amount := o.amount }
  | 5 => { b with days := o.days }
  | 6 => { b with text := o.text }
  | _ => b
theorem tell_lay (o b : Cm) (ho : o.Ok) (s : Nat) (t : List UInt8) (h : tellS o s = some t) : layS b s t = some (setS o b s) ∧ 32 ∉ t := by
  have hw : ∀ n, wholeT n = some t → rdW t = some n ∧ 32 ∉ t := fun n h => by
    unfold wholeT at h
    split at h
    · rename_i hb
      injection h with h
      subst h
      exact ⟨rdW_itoa n hb.1 hb.2, itoa_no32 n⟩
    · cases h
  match s, h with
  | 0, h => obtain ⟨a, c⟩ := hw _ h; exact ⟨by simp only [layS, a, Option.map_some, setS], c⟩
  | 1, h => obtain ⟨a, c⟩ := hw _ h; exact ⟨by simp only [layS, a, Option.map_some, setS], c⟩
  | 2, h => obtain ⟨a, c⟩ := hw _ h; exact ⟨by simp only [layS, a, Option.map_some, setS], c⟩
  | 3, h => obtain ⟨a, c⟩ := hw _ h; exact ⟨by simp only [layS, a, Option.map_some, setS], c⟩
  | 4, h => injection h with h; subst h; exact ⟨by simp only [layS, amtR_fmt _ ho.amount, Option.map_some, setS], fmt_no _⟩
  | 5, h => obtain ⟨a, c⟩ := plan_of h; exact ⟨by simp only [layS, a, Option.map_some, setS], c⟩
  | 6, h =>
    simp only [tellS, letters] at h
    split at h
    · cases h
    · rename_i h0
      split at h
      · rename_i hc
        injection h with h
        subst h
        exact ⟨by simp only [layS, if_neg h0, setS], ((clean_iff _).1 hc).1⟩
      · cases h
  | n + 7, h => cases h
inductive Tells (o : Cm) : List Nat → List (List UInt8) → Prop where
  | nil : Tells o [] []
  | cons {s t sl ts} : tellS o s = some t → Tells o sl ts → Tells o (s :: sl) (t :: ts)
def joinF (w : List UInt8) : List (List UInt8) → List UInt8
  | [] => w
  | t :: ts => joinF (w ++ 32 :: t) ts
theorem line_tells (o : Cm) : ∀ (sl : List Nat) (l r : List UInt8), lineS o sl l = some r → ∃ ts, Tells o sl ts ∧ r = joinF l ts
  | [], l, r, h => ⟨[], .nil, by injection h with h; exact h.symm⟩
  | s :: sl, l, r, h => by
    rw [lineS] at h
    cases e : tellS o s with
    | none => rw [e] at h; cases h
    | some t =>
      rw [e] at h
      obtain ⟨ts, h1, h2⟩ := line_tells o sl _ r h
      exact ⟨t :: ts, .cons e h1, h2⟩
theorem tells_line (o : Cm) : ∀ (sl : List Nat) (ts : List (List UInt8)) (l : List UInt8), Tells o sl ts → lineS o sl l = some (joinF l ts)
  | _, _, l, .nil => rfl
  | _, _, l, .cons h hs => by
    rw [lineS, h]
    exact tells_line o _ _ _ hs
theorem joinF_app : ∀ (ts : List (List UInt8)) (a b : List UInt8), joinF (a ++ b) ts = a ++ joinF b ts
  | [], a, b => rfl
  | t :: ts, a, b => by rw [joinF, joinF, List.append_assoc]; exact joinF_app ts a _
theorem spl_join : ∀ (ts : List (List UInt8)) (w : List UInt8), 32 ∉ w → (∀ t ∈ ts, 32 ∉ t) → spl (joinF w ts) = w :: ts
  | [], w, hw, _ => spl_no w hw
  | t :: ts, w, hw, ht => by
    rw [joinF, show w ++ 32 :: t = (w ++ [32]) ++ t by simp, joinF_app, List.append_assoc]
    show spl (w ++ 32 :: joinF t ts) = _
    rw [spl_cut w _ hw, spl_join ts t (ht t (by simp)) (fun u hu => ht u (by simp [hu]))]
theorem join_spl : ∀ (n : Nat) (l : List UInt8), l.length ≤ n → joinF ((spl l).getD 0 []) ((spl l).drop 1) = l := by
  intro n
  induction n with
  | zero =>
    intro l h
    have : l = [] := List.eq_nil_of_length_eq_zero (by omega)
    subst this; rfl
  | succ n ih =>
    intro l h
    rcases cut_or l with hn | ⟨a, b, e, ha⟩
    · rw [spl_no l hn]; rfl
    · subst e
      have hb := ih b (by simp at h; omega)
      rw [spl_cut a b ha]
      show joinF a (spl b) = _
      cases hs : spl b with
      | nil => exact absurd hs (spl_ne b)
      | cons f fs =>
        rw [hs] at hb
        show joinF (a ++ 32 :: f) fs = _
        rw [show a ++ 32 :: f = (a ++ [32]) ++ f by simp, joinF_app]
        have : joinF f fs = b := hb
        rw [this]; simp
theorem read_tells (o : Cm) (ho : o.Ok) : ∀ (sl : List Nat) (ts : List (List UInt8)) (p : Nat) (b : Cm), Tells o sl ts → readF sl ts p b = .ok (sl.foldl (setS o) b)
  | _, _, p, b, .nil => rfl
  | _, _, p, b, .cons h hs => by
    rw [readF, (tell_lay o b ho _ _ h).1]
    exact read_tells o ho _ _ _ _ hs
theorem tells_no (o : Cm) (ho : o.Ok) : ∀ (sl : List Nat) (ts : List (List UInt8)), Tells o sl ts → ts.length = sl.length ∧ ∀ t ∈ ts, 32 ∉ t
  | _, _, .nil => ⟨rfl, by simp⟩
  | _, _, .cons h hs => by
    obtain ⟨h1, h2⟩ := tells_no o ho _ _ hs
    refine ⟨by simp [h1], fun t ht => ?_⟩
    rcases List.mem_cons.1 ht with rfl | ht
    · exact (tell_lay o o ho _ _ h).2
    · exact h2 t ht
theorem word_no : ∀ k, k < 22 → (32 : UInt8) ∉ wordN k := by decide
/-- The operation with what its kind has no place for struck. -/
def bareC (o : Cm) : Cm := (slotN o.kind.toNat).foldl (setS o) ⟨o.kind, 0, 0, 0, 0, 0, []⟩
theorem gives_back (o : Cm) (ho : o.Ok) (l : List UInt8) (h : fmtOp o = some l) : readL l = .ok (bareC o) ∧ l.length ≤ 100 := by
  unfold fmtOp at h
  split at h
  · rename_i hk
    obtain ⟨k, hkk⟩ : ∃ k : Nat, o.kind = (k : Int) := ⟨o.kind.toNat, by omega⟩
    have e1 : o.kind.toNat = k := by omega
    rw [e1] at h
    cases hl : lineS o (slotN k) (wordN k) with
    | none => rw [hl] at h; cases h
    | some r =>
      rw [hl] at h
      have hr : r.length ≤ 100 ∧ r = l := by
        unfold short at h
        simp only at h
        split at h
        · rename_i hlen; injection h with h; exact ⟨hlen, h⟩
        · cases h
      obtain ⟨hlen, rfl⟩ := hr
      obtain ⟨ts, hts, hj⟩ := line_tells o _ _ _ hl
      obtain ⟨n1, n2⟩ := tells_no o ho _ _ hts
      have hs : spl r = wordN k :: ts := by rw [hj]; exact spl_join ts _ (word_no k (by omega)) n2
      refine ⟨?_, hlen⟩
      unfold readL
      rw [if_neg (by omega), hs]
      show (match kindW (wordN k) with | none => _ | some k => _) = _
      rw [kindW_word (by omega) (by omega)]
      simp only
      rw [if_neg (by simp [n1])]
      show readF (slotN k) ts ((wordN k).length + 1) ⟨(k : Int), 0, 0, 0, 0, 0, []⟩ = _
      rw [read_tells o ho _ _ _ _ hts]
      unfold bareC
      rw [e1, hkk]
  · cases h
end ScF
end Go.Proofs.YtkjnklagjhhhkaaGreatDoor
