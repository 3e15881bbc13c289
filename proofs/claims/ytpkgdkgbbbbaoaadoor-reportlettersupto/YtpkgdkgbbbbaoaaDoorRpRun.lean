/-
  Ours: the runs of digits of a text, as the document's reader takes them; those of a letter. No Go in sight (but the letters' data).
-/
import Derived.Test.YtpkgdkgbbbbaoaaDoorRpN
namespace Go.Proofs.YtpkgdkgbbbbaoaaDoor
open Go.RowKit Go.Lib CalM
namespace RpM
def dgB (c : UInt8) : Bool := decide (48 ≤ c.toNat ∧ c.toNat ≤ 57)
structure Rs where
  out : List Int
  n : Int
  k : Nat
def rstep (s : Rs) (c : UInt8) : Rs :=
  if dgB c then ⟨s.out, if s.k < 19 then wrap64 (wrap64 (10 * s.n) + ((c.toNat : Int) - 48)) else s.n, s.k + 1⟩
  else if 0 < s.k then ⟨s.out ++ [s.n], 0, 0⟩ else s
def rs (l : List UInt8) : Rs := l.foldl rstep ⟨[], 0, 0⟩
/-- The runs: the text with one more byte behind it, that is no digit. -/
def runsL (l : List UInt8) : List Int := (rs (l ++ [32])).out
theorem rs_snoc (l : List UInt8) (c : UInt8) : rs (l ++ [c]) = rstep (rs l) c := by unfold rs; rw [List.foldl_append]; rfl
theorem rs_take (l : List UInt8) (i : Nat) (h : i < l.length) : rs (l.take (i + 1)) = rstep (rs (l.take i)) l[i] := by
  rw [List.take_succ_eq_append_getElem h, rs_snoc]
theorem wrap64_i64 (x : Int) : i64 (wrap64 x) := by unfold i64 wrap64; omega
structure RsOk (i : Nat) (s : Rs) : Prop where
  n : i64 s.n
  out : ∀ x ∈ s.out, i64 x
  len : s.out.length ≤ i
  k : s.k ≤ i
theorem rstep_ok {i : Nat} {s : Rs} (h : RsOk i s) (c : UInt8) : RsOk (i + 1) (rstep s c) := by
  unfold rstep
  split
  · refine ⟨?_, h.out, by have := h.len; simp only; omega, by have := h.k; simp only; omega⟩
    simp only
    split
    · exact wrap64_i64 _
    · exact h.n
  · split
    · refine ⟨⟨by show (-9223372036854775808 : Int) ≤ 0; omega, by show (0 : Int) ≤ 9223372036854775807; omega⟩, fun x hx => ?_, by have := h.len; simp; omega, by simp⟩
      rcases List.mem_append.1 hx with hx | hx
      · exact h.out x hx
      · rw [List.mem_singleton.1 hx]; exact h.n
    · exact ⟨h.n, h.out, by have := h.len; omega, by have := h.k; omega⟩
theorem rs_ok (l : List UInt8) : ∀ i, i ≤ l.length → RsOk i (rs (l.take i))
  | 0, _ => ⟨⟨by show (-9223372036854775808 : Int) ≤ 0; omega, by show (0 : Int) ≤ 9223372036854775807; omega⟩, fun x hx => by simp [rs] at hx, by simp [rs], by simp [rs]⟩
  | i + 1, h => by
    rw [rs_take l i (by omega)]
    exact rstep_ok (rs_ok l i (by omega)) _
/-! The runs of a letter. -/
def vF (v : Nat) (D : List UInt8) : Nat := D.foldl (fun n c => 10 * n + (c.toNat - 48)) v
theorem vF_ge : ∀ (D : List UInt8) (v : Nat), v ≤ vF v D
  | [], v => Nat.le_refl v
  | c :: D, v => by
    have := vF_ge D (10 * v + (c.toNat - 48))
    show v ≤ vF (10 * v + (c.toNat - 48)) D
    omega
theorem fold_dig : ∀ (D : List UInt8) (out : List Int) (v k : Nat), (∀ c ∈ D, dgB c = true) → k + D.length ≤ 19 → vF v D ≤ 9223372036854775807 →
    D.foldl rstep ⟨out, (v : Int), k⟩ = ⟨out, (vF v D : Int), k + D.length⟩
  | [], out, v, k, _, _, _ => rfl
  | c :: D, out, v, k, hd, hk, hv => by
    have h1 := hd c (List.mem_cons_self ..)
    have hv' : vF (10 * v + (c.toNat - 48)) D ≤ 9223372036854775807 := hv
    have hge := vF_ge D (10 * v + (c.toNat - 48))
    have hc : 48 ≤ c.toNat ∧ c.toNat ≤ 57 := of_decide_eq_true h1
    simp only [List.length_cons] at hk
    have e : rstep ⟨out, (v : Int), k⟩ c = ⟨out, ((10 * v + (c.toNat - 48) : Nat) : Int), k + 1⟩ := by
      unfold rstep
      rw [if_pos h1]
      simp only
      rw [if_pos (by omega)]
      congr 1
      unfold wrap64
      omega
    rw [List.foldl_cons, e, fold_dig D out _ (k + 1) (fun c hc => hd c (List.mem_cons_of_mem _ hc)) (by omega) hv']
    show _ = Rs.mk out ((vF (10 * v + (c.toNat - 48)) D : Nat) : Int) (k + (D.length + 1))
    congr 1
    omega
theorem fold_non0 : ∀ (S : List UInt8) (out : List Int), (∀ c ∈ S, dgB c = false) → S.foldl rstep ⟨out, 0, 0⟩ = ⟨out, 0, 0⟩
  | [], _, _ => rfl
  | c :: S, out, h => by
    have e : rstep ⟨out, 0, 0⟩ c = ⟨out, 0, 0⟩ := by
      unfold rstep
      rw [if_neg (by rw [h c (List.mem_cons_self ..)]; decide), if_neg (by simp)]
    rw [List.foldl_cons, e]
    exact fold_non0 S out fun c hc => h c (List.mem_cons_of_mem _ hc)
theorem fold_non (S : List UInt8) (out : List Int) (n : Int) (k : Nat) (hk : 0 < k) (hS : S ≠ []) (h : ∀ c ∈ S, dgB c = false) : S.foldl rstep ⟨out, n, k⟩ = ⟨out ++ [n], 0, 0⟩ := by
  cases S with
  | nil => exact absurd rfl hS
  | cons c S =>
    have e : rstep ⟨out, n, k⟩ c = ⟨out ++ [n], 0, 0⟩ := by
      unfold rstep
      rw [if_neg (by rw [h c (List.mem_cons_self ..)]; decide), if_pos hk]
    rw [List.foldl_cons, e]
    exact fold_non0 S _ fun c hc => h c (List.mem_cons_of_mem _ hc)
/-- A run of digits and what parts it from the next. -/
theorem fold_run (D S : List UInt8) (out : List Int) (v : Nat) (hd : ∀ c ∈ D, dgB c = true) (hn : D ≠ []) (hl : D.length ≤ 19) (hv : vF 0 D = v) (hb : v ≤ 9223372036854775807) (hS : S ≠ []) (h : ∀ c ∈ S, dgB c = false) :
    (D ++ S).foldl rstep ⟨out, 0, 0⟩ = ⟨out ++ [(v : Int)], 0, 0⟩ := by
  have e := fold_dig D out 0 0 hd (by omega) (by rw [hv]; exact hb)
  rw [List.foldl_append]
  rw [show ((0 : Nat) : Int) = 0 from rfl] at e
  rw [e, hv]
  exact fold_non S out _ _ (by have := List.length_pos_iff.2 hn; omega) hS h
theorem vF_app (v : Nat) (A B : List UInt8) : vF v (A ++ B) = vF (vF v A) B := by unfold vF; rw [List.foldl_append]
theorem dig_u8 (k : Nat) (h : k < 10) : dgB (UInt8.ofNat (48 + k)) = true ∧ (UInt8.ofNat (48 + k)).toNat - 48 = k := by
  unfold dgB
  rw [u8_nat (by omega)]
  exact ⟨decide_eq_true (by omega), by omega⟩
theorem dec_dig : ∀ n : Nat, (∀ c ∈ decDigits n, dgB c = true) ∧ vF 0 (decDigits n) = n ∧ decDigits n ≠ [] := by
  intro n
  induction n using Nat.strongRecOn with
  | ind n ih =>
    by_cases h : n < 10
    · rw [decDigits, dif_pos h]
      refine ⟨fun c hc => by rw [List.mem_singleton.1 hc]; exact (dig_u8 n h).1, ?_, by simp⟩
      show 10 * 0 + ((UInt8.ofNat (48 + n)).toNat - 48) = n
      rw [(dig_u8 n h).2]
      omega
    · obtain ⟨h1, h2, h3⟩ := ih (n / 10) (by omega)
      rw [decDigits, dif_neg h]
      refine ⟨fun c hc => ?_, ?_, by simp⟩
      · rcases List.mem_append.1 hc with hc | hc
        · exact h1 c hc
        · rw [List.mem_singleton.1 hc]; exact (dig_u8 _ (by omega)).1
      · rw [vF_app, h2]
        show 10 * (n / 10) + ((UInt8.ofNat (48 + n % 10)).toNat - 48) = n
        rw [(dig_u8 _ (by omega)).2]
        omega
theorem dg_dig (n : Nat) : dgB (dg n) = true ∧ (dg n).toNat - 48 = n % 10 := dig_u8 (n % 10) (by omega)
theorem pad2_dig (n : Nat) (h : n < 100) : (∀ c ∈ pad2 n, dgB c = true) ∧ vF 0 (pad2 n) = n ∧ pad2 n ≠ [] ∧ (pad2 n).length ≤ 19 := by
  refine ⟨fun c hc => ?_, ?_, by simp [pad2], by simp [pad2]⟩
  · simp only [pad2, List.mem_cons, List.not_mem_nil, or_false] at hc
    rcases hc with rfl | rfl <;> exact (dg_dig _).1
  · show 10 * (10 * 0 + ((dg (n / 10)).toNat - 48)) + ((dg n).toNat - 48) = n
    rw [(dg_dig _).2, (dg_dig _).2]
    omega
theorem pad4_dig (n : Nat) (h : n < 10000) : (∀ c ∈ pad4 n, dgB c = true) ∧ vF 0 (pad4 n) = n ∧ pad4 n ≠ [] ∧ (pad4 n).length ≤ 19 := by
  refine ⟨fun c hc => ?_, ?_, by simp [pad4], by simp [pad4]⟩
  · simp only [pad4, List.mem_cons, List.not_mem_nil, or_false] at hc
    rcases hc with rfl | rfl | rfl | rfl <;> exact (dg_dig _).1
  · show 10 * (10 * (10 * (10 * 0 + ((dg (n / 1000)).toNat - 48)) + ((dg (n / 100)).toNat - 48)) + ((dg (n / 10)).toNat - 48)) + ((dg n).toNat - 48) = n
    rw [(dg_dig _).2, (dg_dig _).2, (dg_dig _).2, (dg_dig _).2]
    omega
def cen (n : Nat) : List UInt8 := [UInt8.ofNat (48 + n % 100 / 10), UInt8.ofNat (48 + n % 10)]
theorem cen_dig (n : Nat) : (∀ c ∈ cen n, dgB c = true) ∧ vF 0 (cen n) = n % 100 ∧ cen n ≠ [] ∧ (cen n).length ≤ 19 := by
  refine ⟨fun c hc => ?_, ?_, by simp [cen], by simp [cen]⟩
  · simp only [cen, List.mem_cons, List.not_mem_nil, or_false] at hc
    rcases hc with rfl | rfl
    · exact (dig_u8 _ (by omega)).1
    · exact (dig_u8 _ (by omega)).1
  · show 10 * (10 * 0 + ((UInt8.ofNat (48 + n % 100 / 10)).toNat - 48)) + ((UInt8.ofNat (48 + n % 10)).toNat - 48) = n % 100
    rw [(dig_u8 _ (by omega)).2, (dig_u8 _ (by omega)).2]
    omega
theorem wrd_non (k : Nat) : (∀ c ∈ (wrd k).a, dgB c = false) ∧ (∀ c ∈ (wrd k).b, dgB c = false) ∧ (∀ c ∈ (wrd k).c, dgB c = false) := by
  unfold wrd
  split <;> decide
theorem wrd_ne (k : Nat) (h1 : 1 ≤ k) (h9 : k ≤ 9) : (wrd k).b ≠ [] ∧ (wrd k).c ≠ [] := by
  have : k = 1 ∨ k = 2 ∨ k = 3 ∨ k = 4 ∨ k = 5 ∨ k = 6 ∨ k = 7 ∨ k = 8 ∨ k = 9 := by omega
  rcases this with rfl | rfl | rfl | rfl | rfl | rfl | rfl | rfl | rfl <;> decide
theorem mem_app {S T : List UInt8} (hS : ∀ c ∈ S, dgB c = false) (hT : ∀ c ∈ T, dgB c = false) : ∀ c ∈ S ++ T, dgB c = false := fun c hc => (List.mem_append.1 hc).elim (hS c) (hT c)
theorem runs_let (k : Nat) (h1 : 1 ≤ k) (h9 : k ≤ 9) (id y m d loan amt : Nat) (hi : id ≤ 9223372036854775807) (hl : loan ≤ 9223372036854775807) (ha : amt ≤ 9223372036854775807) (hy : y < 10000) (hm : m < 100) (hd : d < 100) :
    runsL (letT k (decDigits id) (dateT y m d) (decDigits loan) (amtL amt)) =
      [(id : Int), (y : Int), (m : Int), (d : Int)] ++ (if (wrd k).f then [((amt / 100 : Nat) : Int), ((amt % 100 : Nat) : Int), (loan : Int)] else [(loan : Int), ((amt / 100 : Nat) : Int), ((amt % 100 : Nat) : Int)]) := by
  obtain ⟨wa, wb, wc⟩ := wrd_non k
  obtain ⟨nb, nc⟩ := wrd_ne k h1 h9
  have hsp : ∀ c ∈ [(32 : UInt8)], dgB c = false := by decide
  have L1 := dec_dig id
  have L2 := dec_dig loan
  have L3 := dec_dig (amt / 100)
  have e0 := dec_len id (by omega)
  have e1 := dec_len loan (by omega)
  have e2 := dec_len (amt / 100) (by omega)
  have Y := pad4_dig y hy
  have M := pad2_dig m hm
  have D := pad2_dig d hd
  have C := cen_dig amt
  have hdash : ∀ c ∈ [(45 : UInt8)], dgB c = false := by decide
  have hdot : ∀ c ∈ [(46 : UInt8)], dgB c = false := by decide
  have hof : ∀ c ∈ ofB, dgB c = false := by decide
  have hco : ∀ c ∈ colB, dgB c = false := by decide
  have hno : ∀ c ∈ notB, dgB c = false := by decide
  have hcw := mem_app hco wa
  have hce := mem_app wc hsp
  have hamt : amtL amt = decDigits (amt / 100) ++ [46] ++ cen amt := by unfold amtL cen; rw [List.append_assoc]; rfl
  unfold runsL rs letT lay
  rw [hamt]
  unfold dateT
  cases hf : (wrd k).f with
  | true =>
    simp only [if_true]
    rw [show notB ++ decDigits id ++ ofB ++ (pad4 y ++ [45] ++ pad2 m ++ [45] ++ pad2 d) ++ colB ++ ((wrd k).a ++ (decDigits (amt / 100) ++ [46] ++ cen amt) ++ (wrd k).b ++ decDigits loan ++ (wrd k).c) ++ [32] =
      notB ++ ((decDigits id ++ ofB) ++ ((pad4 y ++ [45]) ++ ((pad2 m ++ [45]) ++ ((pad2 d ++ (colB ++ (wrd k).a)) ++ ((decDigits (amt / 100) ++ [46]) ++ ((cen amt ++ (wrd k).b) ++ (decDigits loan ++ ((wrd k).c ++ [32])))))))) by simp only [List.append_assoc]]
    rw [List.foldl_append, fold_non0 _ _ hno, List.foldl_append, fold_run _ _ _ id L1.1 L1.2.2 e0 L1.2.1 hi (by decide) hof, List.foldl_append, fold_run _ _ _ y Y.1 Y.2.2.1 Y.2.2.2 Y.2.1 (by omega) (by decide) hdash,
      List.foldl_append, fold_run _ _ _ m M.1 M.2.2.1 M.2.2.2 M.2.1 (by omega) (by decide) hdash, List.foldl_append, fold_run _ _ _ d D.1 D.2.2.1 D.2.2.2 D.2.1 (by omega) (by simp [colB]) hcw,
      List.foldl_append, fold_run _ _ _ (amt / 100) L3.1 L3.2.2 e2 L3.2.1 (by omega) (by decide) hdot, List.foldl_append, fold_run _ _ _ (amt % 100) C.1 C.2.2.1 C.2.2.2 C.2.1 (by omega) nb wb,
      fold_run _ _ _ loan L2.1 L2.2.2 e1 L2.2.1 hl (by simp) hce]
    rfl
  | false =>
    simp only [Bool.false_eq_true, if_false]
    rw [show notB ++ decDigits id ++ ofB ++ (pad4 y ++ [45] ++ pad2 m ++ [45] ++ pad2 d) ++ colB ++ ((wrd k).a ++ decDigits loan ++ (wrd k).b ++ (decDigits (amt / 100) ++ [46] ++ cen amt) ++ (wrd k).c) ++ [32] =
      notB ++ ((decDigits id ++ ofB) ++ ((pad4 y ++ [45]) ++ ((pad2 m ++ [45]) ++ ((pad2 d ++ (colB ++ (wrd k).a)) ++ ((decDigits loan ++ (wrd k).b) ++ ((decDigits (amt / 100) ++ [46]) ++ (cen amt ++ ((wrd k).c ++ [32])))))))) by simp only [List.append_assoc]]
    rw [List.foldl_append, fold_non0 _ _ hno, List.foldl_append, fold_run _ _ _ id L1.1 L1.2.2 e0 L1.2.1 hi (by decide) hof, List.foldl_append, fold_run _ _ _ y Y.1 Y.2.2.1 Y.2.2.2 Y.2.1 (by omega) (by decide) hdash,
      List.foldl_append, fold_run _ _ _ m M.1 M.2.2.1 M.2.2.2 M.2.1 (by omega) (by decide) hdash, List.foldl_append, fold_run _ _ _ d D.1 D.2.2.1 D.2.2.2 D.2.1 (by omega) (by simp [colB]) hcw,
      List.foldl_append, fold_run _ _ _ loan L2.1 L2.2.2 e1 L2.2.1 hl nb wb, List.foldl_append, fold_run _ _ _ (amt / 100) L3.1 L3.2.2 e2 L3.2.1 (by omega) (by decide) hdot,
      fold_run _ _ _ (amt % 100) C.1 C.2.2.1 C.2.2.2 C.2.1 (by omega) (by simp) hce]
    rfl
end RpM
end Go.Proofs.YtpkgdkgbbbbaoaaDoor
