/-
  Ours: what holds of a pair of networks after n steps (pure).
-/
import Derived.Test.YtcnhcdlbippjoaaNwSnt
import Derived.Test.YtcnhcdlbippjoaaNwOp
namespace Go.Proofs.Ytcnhcdlbippjoaa
open Go.RowKit NwM
/-- Every message of the reference is still to come. -/
def Live (r : RNt) : Prop := ∀ m ∈ r.ms, r.now < m.at' ∨ r.now < m.ag
theorem Live.hand {r : RNt} (h : Live r) (hf : ∀ f ∈ r.fs, isF f) (p : Pk) : Live (rhand r p) := fun m hm => by
  have hh : isF (r.fs.headD 49) := by
    cases hfs : r.fs with
    | nil => exact .inr (.inr ⟨by decide, by decide⟩)
    | cons f fs => exact hf f (by rw [hfs]; simp)
  rw [rhand_now]
  unfold rhand at hm
  split at hm
  · exact h m hm
  · rename_i h1
    rcases List.mem_append.1 hm with hm | hm
    · exact h m hm
    · rw [List.mem_singleton.1 hm]
      unfold rmsg
      split
      · exact .inl (Nat.lt_succ_self _)
      · left
        show r.now < r.now + (r.fs.headD 49 - 48)
        unfold isF at hh
        omega
theorem Live.taken {r : RNt} (h : Live r) (a : Ac) : Live (rtaken r a) := by
  unfold rtaken
  split
  · exact h
  · exact h
theorem rtaken_fs (r : RNt) (a : Ac) : (rtaken r a).fs = r.fs := by unfold rtaken; split <;> rfl
theorem fs_hand {r : RNt} (hf : ∀ f ∈ r.fs, isF f) (p : Pk) : ∀ f ∈ (rhand r p).fs, isF f := fun f h => by
  rw [rhand_fs] at h
  exact hf f (List.mem_of_mem_tail h)
theorem Live.fold : ∀ (ms : List Ms) (s : RNt × List Int), Live s.1 → (∀ f ∈ s.1.fs, isF f) → Live (ms.foldl rstep s).1
  | [], _, h, _ => h
  | m :: ms, s, h, hf => by
    rw [List.foldl_cons]
    unfold rstep
    split
    · exact Live.fold ms _ h hf
    · refine Live.fold ms _ ?_ ?_
      · exact (h.taken _).hand (by rw [rtaken_fs]; exact hf) _
      · exact fs_hand (by rw [rtaken_fs]; exact hf) _
theorem Live.tick {r : RNt} (hf : ∀ f ∈ r.fs, isF f) : Live (rtick r).1 := by
  refine Live.fold _ _ (fun m hm => ?_) hf
  have := (List.mem_filter.1 hm).2
  unfold isLeft at this
  show r.now + 1 < m.at' ∨ r.now + 1 < m.ag
  simpa using this
theorem live_len {r : RNt} (h : Live r) : r.ms.length ≤ rfly r := by
  unfold rfly
  have key : ∀ l : List Ms, (∀ m ∈ l, r.now < m.at' ∨ r.now < m.ag) → l.length ≤ (l.map (fly1 r.now)).sum := fun l => by
    induction l with
    | nil => intro _; exact Nat.le_refl _
    | cons m l ih =>
      intro hl
      have h1 := ih (fun x hx => hl x (List.mem_cons_of_mem _ hx))
      have h2 : 1 ≤ fly1 r.now m := by
        unfold fly1
        rcases hl m (List.mem_cons_self ..) with z | z
        · rw [if_pos z]; omega
        · rw [if_pos z]; omega
      rw [List.length_cons, List.map_cons, List.sum_cons]
      omega
  exact key r.ms h
theorem wr_len : ∀ l : List Pk, l.length ≤ wr l
  | [] => Nat.le_refl _
  | p :: l => by
    have := wr_len l
    have h1 : 1 ≤ wp p := by unfold wp; split <;> omega
    show l.length + 1 ≤ wp p + wr l
    omega
theorem fly_sz (t : Nt) : flying t ≤ sz t := by
  have key : ∀ l : List (List Pk), (l.map List.length).sum ≤ (l.map wr).sum := fun l => by
    induction l with
    | nil => exact Nat.le_refl _
    | cons a l ih => have := wr_len a; rw [List.map_cons, List.map_cons, List.sum_cons, List.sum_cons]; omega
  have := key t.fl
  unfold flying sz wt
  omega
theorem fold_ids : ∀ (ps : List Pk) (s : Nt × List Int), (ps.foldl arr1 s).2.length ≤ s.2.length + ps.length
  | [], _ => Nat.le_refl _
  | p :: ps, s => by
    have h := fold_ids ps (arr1 s p)
    rw [List.foldl_cons, List.length_cons]
    have : (arr1 s p).2.length ≤ s.2.length + 1 := by
      unfold arr1
      split
      · simp
      · simp
    omega
theorem tick_ids (t : Nt) (h : t.fl.length = 10) : (NwM.tick t).2.length ≤ sz t := by
  have h1 := fold_ids (arrs t) (beg t, [])
  have h2 := wr_len (arrs t)
  have h3 := beg_sz t h
  have h4 : (NwM.tick t).2.length ≤ ([] : List Int).length + (arrs t).length := h1
  simp at h4
  omega
/-- A pair after n steps. -/
structure Okp (n : Nat) (t : Nt) (r : RNt) : Prop where
  sm : Sm n t
  lv : Live r
  an : AllN (fun _ bs => bs.length ≤ 1048576) t
theorem Okp.begin : Okp 0 nt0 rn0 := ⟨Sm.nt0, (fun m hm => by cases hm), AllN.nt0 _⟩
theorem Okp.mono {n m : Nat} {t : Nt} {r : RNt} (h : Okp n t r) (hm : n ≤ m) : Okp m t r := ⟨h.sm.mono hm, h.lv, h.an⟩
theorem Okp.facts {n : Nat} {t : Nt} {r : RNt} (h : Okp n t r) (e : Rel t r) : sz t ≤ 6 * n ∧ t.now ≤ n ∧ r.now ≤ n ∧ r.ms.length ≤ 6 * n ∧ r.ac.length ≤ 6 * n ∧ t.ac.length ≤ 6 * n ∧ t.fs.length ≤ 4096 ∧ r.fs.length ≤ 4096 ∧ (∀ f ∈ r.fs, isF f) ∧ (∀ a ∈ t.ac, a.bs.length ≤ 1048576) ∧ ∀ a ∈ r.ac, a.bs.length ≤ 1048576 := by
  have h1 := h.sm.sz
  have h2 := h.sm.now
  have h3 := live_len h.lv
  have h4 := e.fly
  have h5 := fly_sz t
  have h6 : t.ac.length = r.ac.length := by have := congrArg List.length e.ac; simpa using this
  have h7 : t.ac.length ≤ sz t := by unfold sz; omega
  refine ⟨h1, h2, by rw [← e.now]; exact h2, by omega, by omega, by omega, h.sm.fs, by rw [← e.fs]; exact h.sm.fs, fun f hf => e.fok f (by rw [e.fs]; exact hf), fun a ha => h.an.ac a ha, fun a ha => ?_⟩
  have : ac0 a ∈ t.ac.map ac0 := by rw [e.ac]; exact List.mem_map.2 ⟨a, ha, rfl⟩
  obtain ⟨b, hb, eb⟩ := List.mem_map.1 this
  have e3 : b.bs = a.bs := congrArg (·.2.2) eb
  rw [← e3]
  exact h.an.ac b hb
theorem Okp.hand {n : Nat} {t : Nt} {r : RNt} (h : Okp n t r) (e : Rel t r) {p q : Pk} (ha : p.ack = false) (hb : p.bs.length ≤ 1048576) : Okp (n + 1) (NwM.hand t p) (rhand r q) :=
  ⟨h.sm.hand p ha, h.lv.hand (h.facts e).2.2.2.2.2.2.2.2.1 q, h.an.hand (fun _ => hb)⟩
theorem Okp.tick {n : Nat} {t : Nt} {r : RNt} (h : Okp n t r) (e : Rel t r) : Okp (n + 1) (NwM.tick t).1 (rtick r).1 := ⟨h.sm.tick, Live.tick (h.facts e).2.2.2.2.2.2.2.2.1, h.an.tick⟩
theorem Okp.calm {n : Nat} {t : Nt} {r : RNt} (h : Okp n t r) : Okp (n + 1) (NwM.calm t) (rcalm r) := ⟨h.sm.calm, h.lv, ⟨h.an.fl, h.an.ac⟩⟩
theorem Okp.fate {n : Nat} {t : Nt} {r : RNt} (h : Okp n t r) (s : ByteArray) : Okp (n + 1) (fateT t s) (rfateT r s) := by
  refine ⟨h.sm.fate s, ?_, ?_⟩
  · unfold rfateT
    split
    · exact h.lv
    · exact h.lv
  · obtain ⟨e1, e2, _⟩ := fateT_fl t s
    exact ⟨by rw [e1]; exact h.an.fl, by rw [e2]; exact h.an.ac⟩
end Go.Proofs.Ytcnhcdlbippjoaa
