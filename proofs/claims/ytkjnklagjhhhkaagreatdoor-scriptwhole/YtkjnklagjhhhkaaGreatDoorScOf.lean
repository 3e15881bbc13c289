/-
  Ours: what Parse reads, Format tells. No Go in sight.
-/
import Derived.Test.YtkjnklagjhhhkaaGreatDoorScGb
namespace Go.Proofs.YtkjnklagjhhhkaaGreatDoor
namespace ScF
open Go.Lib

def fldN : Nat → Nat
  | 5 => 3
  | s => s
theorem lay_facts (b b' : Cm) (s : Nat) (t : List UInt8) (h : layS b s t = some b') (h32 : 32 ∉ t) (h10 : 10 ∉ t) : tellS b' s = some t ∧ (∀ s', fldN s' ≠ fldN s → tellS b' s' = tellS b s') ∧ b'.kind = b.kind := by
  have oth : ∀ (f : Cm), (∀ s', fldN s' ≠ fldN s → tellS f s' = tellS b s') → True := fun _ _ => trivial
  match s, h with
  | 0, h =>
    simp only [layS] at h
    cases e : rdW t with
    | none => rw [e] at h; cases h
    | some n =>
      rw [e] at h; injection h with h; subst h
      exact ⟨whole_rdW e, fun s' hs => by
        match s', hs with
        | 0, hs => exact absurd rfl hs
        | 1, _ => rfl
        | 2, _ => rfl
        | 3, _ => rfl
        | 4, _ => rfl
        | 5, _ => rfl
        | 6, _ => rfl
        | n + 7, _ => rfl, rfl⟩
  | 1, h =>
    simp only [layS] at h
    cases e : rdW t with
    | none => rw [e] at h; cases h
    | some n =>
      rw [e] at h; injection h with h; subst h
      exact ⟨whole_rdW e, fun s' hs => by
        match s', hs with
        | 0, _ => rfl
        | 1, hs => exact absurd rfl hs
        | 2, _ => rfl
        | 3, _ => rfl
        | 4, _ => rfl
        | 5, _ => rfl
        | 6, _ => rfl
        | n + 7, _ => rfl, rfl⟩
  | 2, h =>
    simp only [layS] at h
    cases e : rdW t with
    | none => rw [e] at h; cases h
    | some n =>
      rw [e] at h; injection h with h; subst h
      exact ⟨whole_rdW e, fun s' hs => by
        match s', hs with
        | 0, _ => rfl
        | 1, _ => rfl
        | 2, hs => exact absurd rfl hs
        | 3, _ => rfl
        | 4, _ => rfl
        | 5, _ => rfl
        | 6, _ => rfl
        | n + 7, _ => rfl, rfl⟩
  | 3, h =>
    simp only [layS] at h
    cases e : rdW t with
    | none => rw [e] at h; cases h
    | some n =>
      rw [e] at h; injection h with h; subst h
      exact ⟨whole_rdW e, fun s' hs => by
        match s', hs with
        | 0, _ => rfl
        | 1, _ => rfl
        | 2, _ => rfl
        | 3, hs => exact absurd rfl hs
        | 4, _ => rfl
        | 5, hs => exact absurd rfl hs
        | 6, _ => rfl
        | n + 7, _ => rfl, rfl⟩
  | 4, h =>
    simp only [layS] at h
    cases e : amtR t with
    | none => rw [e] at h; cases h
    | some n =>
      rw [e] at h; injection h with h; subst h
      exact ⟨by simp only [tellS]; rw [(amtR_some e).2], fun s' hs => by
        match s', hs with
        | 0, _ => rfl
        | 1, _ => rfl
        | 2, _ => rfl
        | 3, _ => rfl
        | 4, hs => exact absurd rfl hs
        | 5, _ => rfl
        | 6, _ => rfl
        | n + 7, _ => rfl, rfl⟩
  | 5, h =>
    simp only [layS] at h
    cases e : planR t with
    | none => rw [e] at h; cases h
    | some n =>
      rw [e] at h; injection h with h; subst h
      exact ⟨plan_to e, fun s' hs => by
        match s', hs with
        | 0, _ => rfl
        | 1, _ => rfl
        | 2, _ => rfl
        | 3, hs => exact absurd rfl hs
        | 4, _ => rfl
        | 5, hs => exact absurd rfl hs
        | 6, _ => rfl
        | n + 7, _ => rfl, rfl⟩
  | 6, h =>
    simp only [layS] at h
    split at h
    · cases h
    · rename_i h0
      injection h with h; subst h
      exact ⟨by simp only [tellS, letters, if_neg h0]; rw [(clean_iff t).2 ⟨h32, h10⟩]; rfl, fun s' hs => by
        match s', hs with
        | 0, _ => rfl
        | 1, _ => rfl
        | 2, _ => rfl
        | 3, _ => rfl
        | 4, _ => rfl
        | 5, _ => rfl
        | 6, hs => exact absurd rfl hs
        | n + 7, _ => rfl, rfl⟩
  | n + 7, h => cases h
theorem read_back : ∀ (sl : List Nat) (ts : List (List UInt8)) (p : Nat) (b o : Cm), (sl.map fldN).Nodup → sl.length = ts.length → (∀ t ∈ ts, 32 ∉ t ∧ 10 ∉ t) → readF sl ts p b = .ok o → Tells o sl ts ∧ (∀ s', fldN s' ∉ sl.map fldN → tellS o s' = tellS b s') ∧ o.kind = b.kind
  | [], ts, p, b, o, _, hl, _, h => by
    have : ts = [] := List.eq_nil_of_length_eq_zero (by simpa using hl.symm)
    subst this
    injection h with h; subst h
    exact ⟨.nil, fun _ _ => rfl, rfl⟩
  | s :: sl, [], p, b, o, _, hl, _, h => by simp at hl
  | s :: sl, t :: ts, p, b, o, hn, hl, ht, h => by
    rw [readF] at h
    cases e : layS b s t with
    | none => rw [e] at h; cases h
    | some b' =>
      rw [e] at h
      simp only [List.map_cons, List.nodup_cons] at hn
      obtain ⟨i1, i2, i3⟩ := read_back sl ts _ b' o hn.2 (by simpa using hl) (fun u hu => ht u (by simp [hu])) h
      obtain ⟨f1, f2, f3⟩ := lay_facts b b' s t e (ht t (by simp)).1 (ht t (by simp)).2
      refine ⟨.cons ((i2 s hn.1).trans f1) i1, fun s' hs => ?_, i3.trans f3⟩
      simp only [List.map_cons, List.mem_cons, not_or] at hs
      exact (i2 s' hs.2).trans (f2 s' hs.1)
theorem slot_nodup : ∀ k, k < 22 → ((slotN k).map fldN).Nodup := by decide
theorem spl_mem : ∀ (n : Nat) (l : List UInt8), l.length ≤ n → ∀ f ∈ spl l, 32 ∉ f ∧ ∀ c ∈ f, c ∈ l := by
  intro n
  induction n with
  | zero =>
    intro l h f hf
    have : l = [] := List.eq_nil_of_length_eq_zero (by omega)
    subst this
    simp [spl] at hf
    subst hf; exact ⟨by simp, by simp⟩
  | succ n ih =>
    intro l h f hf
    rcases cut_or l with hn | ⟨a, b, e, ha⟩
    · rw [spl_no l hn] at hf; simp at hf; subst hf; exact ⟨hn, fun c hc => hc⟩
    · subst e
      rw [spl_cut a b ha] at hf
      rcases List.mem_cons.1 hf with rfl | hf
      · exact ⟨ha, fun c hc => by simp [hc]⟩
      · obtain ⟨h1, h2⟩ := ih b (by simp at h; omega) f hf
        exact ⟨h1, fun c hc => by simp [h2 c hc]⟩
theorem lay_ok (b b' : Cm) (s : Nat) (t : List UInt8) (h : layS b s t = some b') (hb : b.Ok ∧ b.text.length ≤ 1000) (ht : t.length ≤ 1000) : b'.Ok ∧ b'.text.length ≤ 1000 := by
  have hw : ∀ n, rdW t = some n → i64 n := fun n e => by
    have := whole_rdW e
    unfold wholeT at this
    split at this
    · unfold i64; omega
    · cases this
  match s, h with
  | 0, h => cases e : rdW t with
    | none => simp [layS, e] at h
    | some n => simp only [layS, e, Option.map_some] at h; injection h with h; subst h; exact ⟨⟨hb.1.kind, hw n e, hb.1.amount, hb.1.rate, hb.1.count, hb.1.days⟩, hb.2⟩
  | 1, h => cases e : rdW t with
    | none => simp [layS, e] at h
    | some n => simp only [layS, e, Option.map_some] at h; injection h with h; subst h; exact ⟨⟨hb.1.kind, hb.1.loan, hb.1.amount, hw n e, hb.1.count, hb.1.days⟩, hb.2⟩
  | 2, h => cases e : rdW t with
    | none => simp [layS, e] at h
    | some n => simp only [layS, e, Option.map_some] at h; injection h with h; subst h; exact ⟨⟨hb.1.kind, hb.1.loan, hb.1.amount, hb.1.rate, hw n e, hb.1.days⟩, hb.2⟩
  | 3, h => cases e : rdW t with
    | none => simp [layS, e] at h
    | some n => simp only [layS, e, Option.map_some] at h; injection h with h; subst h; exact ⟨⟨hb.1.kind, hb.1.loan, hb.1.amount, hb.1.rate, hb.1.count, hw n e⟩, hb.2⟩
  | 4, h => cases e : amtR t with
    | none => simp [layS, e] at h
    | some n => simp only [layS, e, Option.map_some] at h; injection h with h; subst h; exact ⟨⟨hb.1.kind, hb.1.loan, (amtR_some e).1, hb.1.rate, hb.1.count, hb.1.days⟩, hb.2⟩
  | 5, h => cases e : planR t with
    | none => simp [layS, e] at h
    | some n =>
      simp only [layS, e, Option.map_some] at h; injection h with h; subst h
      have hn : i64 n := by
        have := plan_to e
        unfold planW at this
        unfold i64
        split at this
        · omega
        · split at this
          · omega
          · split at this
            · omega
            · cases this
      exact ⟨⟨hb.1.kind, hb.1.loan, hb.1.amount, hb.1.rate, hb.1.count, hn⟩, hb.2⟩
  | 6, h =>
    simp only [layS] at h
    split at h
    · cases h
    · injection h with h; subst h; exact ⟨⟨hb.1.kind, hb.1.loan, hb.1.amount, hb.1.rate, hb.1.count, hb.1.days⟩, ht⟩
  | n + 7, h => cases h
theorem read_ok : ∀ (sl : List Nat) (ts : List (List UInt8)) (p : Nat) (b o : Cm), (∀ t ∈ ts, t.length ≤ 1000) → b.Ok ∧ b.text.length ≤ 1000 → readF sl ts p b = .ok o → o.Ok ∧ o.text.length ≤ 1000
  | [], _, _, b, o, _, hb, h => by injection h with h; subst h; exact hb
  | _ :: _, [], _, _, _, _, _, h => by cases h
  | s :: sl, t :: ts, p, b, o, ht, hb, h => by
    rw [readF] at h
    cases e : layS b s t with
    | none => rw [e] at h; cases h
    | some b' =>
      rw [e] at h
      exact read_ok sl ts _ b' o (fun u hu => ht u (by simp [hu])) (lay_ok b b' s t e hb (ht t (by simp))) h
def lens : List (List UInt8) → Nat
  | [] => 0
  | t :: ts => t.length + 1 + lens ts
theorem read_bad : ∀ (sl : List Nat) (ts : List (List UInt8)) (p : Nat) (b : Cm) (e q : Nat), sl.length = ts.length → readF sl ts p b = .bad e q → e = 182 ∧ q + 1 ≤ p + lens ts
  | [], _, _, _, _, _, _, h => by cases h
  | _ :: _, [], _, _, _, _, hl, _ => by simp at hl
  | s :: sl, t :: ts, p, b, e, q, hl, h => by
    rw [readF] at h
    cases e' : layS b s t with
    | none =>
      rw [e'] at h
      injection h with h1 h2
      subst h1 h2
      exact ⟨rfl, by simp only [lens]; omega⟩
    | some b' =>
      rw [e'] at h
      obtain ⟨i1, i2⟩ := read_bad sl ts _ b' e q (by simpa using hl) h
      exact ⟨i1, by simp only [lens]; omega⟩
theorem join_len : ∀ (ts : List (List UInt8)) (w : List UInt8), (joinF w ts).length = w.length + lens ts
  | [], w => rfl
  | t :: ts, w => by rw [joinF, join_len ts]; simp only [List.length_append, List.length_cons, lens]; omega
theorem cmk_ok (k : Nat) (h : k < 22) : (⟨(k : Int), 0, 0, 0, 0, 0, []⟩ : Cm).Ok := by
  have z : i64 0 := ⟨by decide, by decide⟩
  exact ⟨⟨by show (-9223372036854775808 : Int) ≤ (k : Int); omega, by show (k : Int) ≤ 9223372036854775807; omega⟩, z, z, z, z, z⟩
theorem one_form (l : List UInt8) (o : Cm) (h10 : 10 ∉ l) (h : readL l = .ok o) : fmtOp o = some l ∧ o.Ok ∧ o.text.length ≤ 1000 := by
  unfold readL at h
  split at h
  · cases h
  · rename_i hlen
    split at h
    · cases h
    · rename_i k hk
      obtain ⟨k1, k2, kw⟩ := kindW_some hk
      split at h
      · cases h
      · rename_i hn
        have hn' : (slotN k).length = ((spl l).drop 1).length := by rw [List.length_drop]; exact (Classical.byContradiction hn).symm
        have hm : ∀ t ∈ (spl l).drop 1, 32 ∉ t ∧ 10 ∉ t := fun t ht => by
          obtain ⟨a, b⟩ := spl_mem _ l (Nat.le_refl _) t (List.mem_of_mem_drop ht)
          exact ⟨a, fun hc => h10 (b _ hc)⟩
        obtain ⟨r1, -, r3⟩ := read_back _ _ _ _ o (slot_nodup k k2) hn' hm h
        have hok := read_ok _ _ _ _ o (fun t ht => by
          have := spl_len_le _ l (Nat.le_refl _) t (List.mem_of_mem_drop ht)
          omega) ⟨cmk_ok k k2, by simp⟩ h
        refine ⟨?_, hok⟩
        have hkd : o.kind = (k : Int) := r3
        have hj : joinF (wordN k) ((spl l).drop 1) = l := by rw [kw]; exact join_spl _ l (Nat.le_refl _)
        unfold fmtOp
        rw [if_pos (by omega), show o.kind.toNat = k by omega, tells_line o _ _ _ r1, hj]
        exact if_pos (by omega)
theorem bad_at (l : List UInt8) (e p : Nat) (h : readL l = .bad e p) : 0 < e ∧ p ≤ l.length := by
  unfold readL at h
  split at h
  · injection h with h1 h2; omega
  · split at h
    · injection h with h1 h2; omega
    · rename_i k hk
      split at h
      · injection h with h1 h2; omega
      · rename_i hn
        have hn' : (slotN k).length = ((spl l).drop 1).length := by rw [List.length_drop]; exact (Classical.byContradiction hn).symm
        obtain ⟨r1, r2⟩ := read_bad _ _ _ _ e p hn' h
        have hj := congrArg List.length (join_spl _ l (Nat.le_refl _))
        rw [join_len] at hj
        omega
end ScF
end Go.Proofs.YtkjnklagjhhhkaaGreatDoor
