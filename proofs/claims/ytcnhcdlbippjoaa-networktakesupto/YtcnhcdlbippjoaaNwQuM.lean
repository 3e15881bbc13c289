/-
  Ours: fates are taken one a message, in their order (pure).
-/
import Derived.Test.YtcnhcdlbippjoaaNwCalM
import Derived.Test.YtcnhcdlbippjoaaNwSam
namespace Go.Proofs.Ytcnhcdlbippjoaa
open Go.RowKit NwM
namespace NwM
/-! Where the bytes lie counts for nothing. -/
def erP (p : Pk) : Pk := ⟨p.ack, p.id, none, 0, 0, p.bs⟩
def erA (a : Ac) : Ac := ⟨a.id, a.tk, none, 0, 0, a.bs⟩
def er (t : Nt) : Nt := ⟨t.now, t.fs, t.fl.map (fun r => r.map erP), t.ac.map erA⟩
theorem er_getD (t : Nt) (i : Nat) : (er t).fl.getD i [] = (t.fl.getD i []).map erP := by
  show (t.fl.map (fun r => r.map erP)).getD i [] = _
  rw [List.getD_eq_getElem?_getD, List.getD_eq_getElem?_getD, List.getElem?_map]
  cases t.fl[i]? <;> rfl
theorem er_lay1 (p : Pk) (t : Nt) (d : Nat) : er (lay1 p t d) = lay1 (erP p) (er t) d := by
  unfold lay1
  rw [er_getD]
  show Nt.mk t.now t.fs ((t.fl.set _ _).map (fun r => r.map erP)) (t.ac.map erA) = _
  rw [List.map_set, List.map_append]
  rfl
theorem er_fold (p : Pk) : ∀ (ds : List Nat) (t : Nt), er (ds.foldl (lay1 p) t) = ds.foldl (lay1 (erP p)) (er t)
  | [], _ => rfl
  | d :: ds, t => by rw [List.foldl_cons, er_fold p ds, er_lay1, List.foldl_cons]
theorem er_hand (t : Nt) (p : Pk) : er (hand t p) = hand (er t) (erP p) := er_fold p _ (fate1 t)
theorem er_known (t : Nt) (i : Int) : known (er t) i = known t i := by
  unfold known
  show (t.ac.map erA).any _ = _
  rw [List.any_map]
  rfl
theorem er_taken (t : Nt) (a : Ac) : er (taken t a) = taken (er t) (erA a) := by
  unfold taken
  rw [show (erA a).id = a.id from rfl, er_known]
  split
  · rfl
  · show Nt.mk t.now t.fs _ ((t.ac ++ [a]).map erA) = _
    rw [List.map_append]
    rfl
theorem er_arr1 (s : Nt × List Int) (p : Pk) : arr1 (er s.1, s.2) (erP p) = (er (arr1 s p).1, (arr1 s p).2) := by
  unfold arr1
  show (if p.ack then _ else _) = _
  split
  · rfl
  · show (hand (taken (er s.1) (erA (accA p s.1.now))) (erP (ackP p.id)), s.2) = (er (hand (taken s.1 (accA p s.1.now)) (ackP p.id)), s.2)
    rw [er_hand, er_taken]
theorem er_foldA : ∀ (ps : List Pk) (s : Nt × List Int), (ps.map erP).foldl arr1 (er s.1, s.2) = (er (ps.foldl arr1 s).1, (ps.foldl arr1 s).2)
  | [], _ => rfl
  | p :: ps, s => by
    rw [List.map_cons, List.foldl_cons, er_arr1, er_foldA ps (arr1 s p), List.foldl_cons]
theorem er_tick (t : Nt) : tick (er t) = (er (tick t).1, (tick t).2) := by
  unfold tick arrs
  rw [show (er t).now = t.now from rfl, er_getD]
  have : beg (er t) = er (beg t) := by
    unfold beg
    show Nt.mk _ _ ((t.fl.map (fun r => r.map erP)).set _ []) _ = Nt.mk _ _ ((t.fl.set _ []).map (fun r => r.map erP)) _
    rw [List.map_set]
    rfl
  rw [this]
  exact er_foldA _ (beg t, [])
theorem er_eq_tick {t u : Nt} (h : er t = er u) : er (tick t).1 = er (tick u).1 ∧ (tick t).2 = (tick u).2 := by
  have h1 := er_tick t
  rw [h, er_tick u] at h1
  exact ⟨(congrArg Prod.fst h1).symm, (congrArg Prod.snd h1).symm⟩
theorem er_eq_hand {t u : Nt} {p q : Pk} (h : er t = er u) (hp : erP p = erP q) : er (hand t p) = er (hand u q) := by rw [er_hand, er_hand, h, hp]
theorem er_core {t u : Nt} (h : er t = er u) : t.ac.map core = u.ac.map core := by
  have e : ∀ t : Nt, t.ac.map core = (er t).ac.map core := fun t => by
    show _ = (t.ac.map erA).map core
    rw [List.map_map]
    rfl
  rw [e t, e u, h]
theorem er_fly {t u : Nt} (h : er t = er u) : flying t = flying u := by
  have e : ∀ t : Nt, flying t = flying (er t) := fun t => by
    unfold flying
    show _ = ((t.fl.map (fun r => r.map erP)).map List.length).sum
    rw [List.map_map]
    congr 2
    funext r
    simp
  rw [e t, e u, h]

/-! How late a letter's notice comes. -/
def lateQ (c : Nat) : Nat := if c = 120 then 100 else if c = 100 then 1 else c - 48
theorem lateQ_pos {c : Nat} (h : isF c) : 1 ≤ lateQ c := by
  unfold lateQ isF at *
  split
  · decide
  · split
    · decide
    · omega
theorem late_dl {c d : Nat} (h : d ∈ dl c) : lateQ c ≤ d := by
  unfold dl at h
  unfold lateQ
  split at h
  · cases h
  · rename_i h1
    split at h
    · rename_i h2
      rw [if_neg h1, if_pos h2]
      simp at h
      omega
    · rename_i h2
      rw [if_neg h1, if_neg h2]
      simp at h
      omega
theorem late_in {c : Nat} (h9 : lateQ c ≤ 9) : lateQ c ∈ dl c := by
  unfold lateQ at *
  unfold dl
  by_cases h1 : c = 120
  · rw [if_pos h1] at h9; omega
  · by_cases h2 : c = 100
    · rw [if_neg h1, if_pos h2, if_neg h1, if_pos h2]; simp
    · rw [if_neg h1, if_neg h2, if_neg h1, if_neg h2]; simp
theorem fly_sum : ∀ (l : List (List Pk)) (i : Nat) (r : List Pk), i < l.length → ((l.set i r).map List.length).sum + (l.getD i []).length = (l.map List.length).sum + r.length
  | x :: l, 0, r, _ => by simp; omega
  | x :: l, i + 1, r, h => by
    have := fly_sum l i r (by simpa using h)
    simp at this ⊢
    omega
theorem fly_fold (p : Pk) : ∀ (ds : List Nat) (t : Nt), t.fl.length = 10 → flying (ds.foldl (lay1 p) t) = flying t + ds.length
  | [], t, _ => rfl
  | d :: ds, t, h => by
    rw [List.foldl_cons, fly_fold p ds _ (by rw [lay1_len]; exact h), List.length_cons]
    have := fly_sum t.fl ((t.now + d) % 10) (t.fl.getD ((t.now + d) % 10) [] ++ [p]) (by omega)
    rw [List.length_append, List.length_singleton] at this
    have : flying (lay1 p t d) = flying t + 1 := by
      show ((t.fl.set _ _).map List.length).sum = (t.fl.map List.length).sum + 1
      omega
    omega
/-- Behind i sends. -/
structure QS (ls : List Nat) (i : Nat) (t : Nt) : Prop where
  now : t.now = 0
  fs : t.fs = ls.drop i
  fl : t.fl.length = 10
  ac : t.ac = []
  r0 : rowD t 0 = []
  b : ∀ d, 1 ≤ d → d ≤ 9 → ∀ p ∈ rowD t d, p.ack = false ∧ p.bs = [] ∧ ∃ j, p.id = ((j : Nat) : Int) + 1 ∧ lateQ (ls.getD j 0) ≤ d
  d : ∀ j, j < i → lateQ (ls.getD j 0) ≤ 9 → ∃ p ∈ rowD t (lateQ (ls.getD j 0)), p.ack = false ∧ p.id = ((j : Nat) : Int) + 1
  fly : flying t = ((ls.take i).map (fun c => (dl c).length)).sum
theorem fold_rows {p : Pk} : ∀ (ds : List Nat) (t : Nt), t.fl.length = 10 → ∀ i q, q ∈ t.fl.getD i [] → q ∈ (ds.foldl (lay1 p) t).fl.getD i []
  | [], _, _, _, _, h => h
  | d :: ds, t, hl, i, q, h => by
    refine fold_rows ds _ (by rw [lay1_len]; exact hl) i q ?_
    rw [lay1_row hl]
    split
    · exact List.mem_append.2 (.inl h)
    · exact h
theorem fold_put {p : Pk} : ∀ (ds : List Nat) (t : Nt), t.fl.length = 10 → ∀ d ∈ ds, p ∈ (ds.foldl (lay1 p) t).fl.getD ((t.now + d) % 10) []
  | e :: ds, t, hl, d, h => by
    rcases List.mem_cons.1 h with rfl | h
    · refine fold_rows ds _ (by rw [lay1_len]; exact hl) _ _ ?_
      rw [lay1_row hl, if_pos rfl]
      exact List.mem_append.2 (.inr (List.mem_singleton.2 rfl))
    · exact fold_put ds (lay1 p t e) (by rw [lay1_len]; exact hl) d h
theorem fold_get {p : Pk} : ∀ (ds : List Nat) (t : Nt), t.fl.length = 10 → ∀ i q, q ∈ (ds.foldl (lay1 p) t).fl.getD i [] → q ∈ t.fl.getD i [] ∨ (q = p ∧ ∃ d ∈ ds, (t.now + d) % 10 = i)
  | [], _, _, _, _, h => .inl h
  | d :: ds, t, hl, i, q, h => by
    rcases fold_get ds (lay1 p t d) (by rw [lay1_len]; exact hl) i q h with h1 | ⟨h1, e, he, h2⟩
    · rw [lay1_row hl] at h1
      split at h1
      · rename_i hi
        rcases List.mem_append.1 h1 with h1 | h1
        · exact .inl h1
        · exact .inr ⟨List.mem_singleton.1 h1, d, by simp, hi⟩
      · exact .inl h1
    · exact .inr ⟨h1, e, by simp [he], h2⟩
theorem QS.start {ls : List Nat} : QS ls 0 { nt0 with fs := ls } := by
  refine ⟨rfl, rfl, rfl, rfl, rfl, fun d h1 h9 p hp => ?_, fun j hj => by omega, rfl⟩
  have : rowD { nt0 with fs := ls } d = [] := by
    unfold rowD
    show (List.replicate 10 ([] : List Pk)).getD _ [] = []
    rw [List.getD_eq_getElem?_getD, List.getElem?_replicate]
    split <;> rfl
  rw [this] at hp
  cases hp
theorem QS.next {ls : List Nat} {i : Nat} {t : Nt} (h : QS ls i t) (hi : i < ls.length) (hF : ∀ c ∈ ls, isF c) {p : Pk} (ha : p.ack = false) (hid : p.id = ((i : Nat) : Int) + 1) (hb : p.bs = []) : QS ls (i + 1) (hand t p) := by
  obtain ⟨c, hc⟩ : ∃ c, ls[i]? = some c := ⟨ls[i], List.getElem?_eq_getElem hi⟩
  have hd : ls.drop i = c :: ls.drop (i + 1) := by
    obtain ⟨hl, e⟩ := List.getElem?_eq_some_iff.1 hc
    rw [← e]; exact List.drop_eq_getElem_cons hl
  have hg : ls.getD i 0 = c := by rw [List.getD_eq_getElem?_getD, hc]; rfl
  have hcF : isF c := hF c (List.mem_of_getElem? hc)
  have hh : t.fs.headD 49 = c := by rw [h.fs, hd]; rfl
  have eh : hand t p = (dl c).foldl (lay1 p) (fate1 t) := by unfold hand; rw [hh]
  have hl1 : (fate1 t).fl.length = 10 := h.fl
  have n0 : (fate1 t).now = 0 := h.now
  refine ⟨by rw [hand_now]; exact h.now, by rw [hand_fs, h.fs, hd]; rfl, by rw [hand_len]; exact h.fl, by rw [hand_ac]; exact h.ac, ?_, fun d h1 h9 q hq => ?_, fun j hj h9 => ?_, ?_⟩
  · rw [hand_here h.fl (by rw [h.fs]; exact fun f hf => hF f (List.mem_of_mem_drop hf))]; exact h.r0
  · unfold rowD at hq
    rw [hand_now, eh, h.now] at hq
    rcases fold_get _ _ hl1 _ _ hq with h2 | ⟨rfl, e, he, h2⟩
    · exact h.b d h1 h9 q (by unfold rowD; rw [h.now]; exact h2)
    · refine ⟨ha, hb, i, hid, ?_⟩
      have := dl_ok hcF he
      rw [hg]
      have h3 := late_dl he
      rw [n0] at h2
      omega
  · unfold rowD
    rw [hand_now, eh, h.now]
    by_cases hji : j = i
    · subst hji
      rw [hg] at h9 ⊢
      have := fold_put (p := p) (dl c) (fate1 t) hl1 (lateQ c) (late_in h9)
      rw [n0] at this
      exact ⟨p, this, ha, hid⟩
    · obtain ⟨q, hq, h2⟩ := h.d j (by omega) h9
      refine ⟨q, fold_rows _ _ hl1 _ _ ?_, h2⟩
      unfold rowD at hq
      rw [h.now] at hq
      exact hq
  · rw [eh, fly_fold p _ _ hl1]
    show flying t + _ = _
    rw [h.fly, List.take_add_one, hc, List.map_append, List.sum_append]
    simp
/-- Behind k ticks. -/
structure QI (ls : List Nat) (k : Nat) (t : Nt) : Prop where
  fs : t.fs = []
  fl : t.fl.length = 10
  r0 : rowD t 0 = []
  a : ∀ x ∈ t.ac, 1 ≤ x.tk ∧ x.bs = [] ∧ ∃ j, x.id = ((j : Nat) : Int) + 1 ∧ lateQ (ls.getD j 0) ≤ k
  b : ∀ d, 1 ≤ d → d ≤ 9 → ∀ p ∈ rowD t d, p.ack = false → p.bs = [] ∧ ∃ j, p.id = ((j : Nat) : Int) + 1 ∧ lateQ (ls.getD j 0) ≤ k + d
  c : ∀ j, j < ls.length → lateQ (ls.getD j 0) ≤ k → ∃ x ∈ t.ac, x.id = ((j : Nat) : Int) + 1
  d : ∀ j, j < ls.length → k < lateQ (ls.getD j 0) → lateQ (ls.getD j 0) ≤ 9 → ∃ p ∈ rowD t (lateQ (ls.getD j 0) - k), p.ack = false ∧ p.id = ((j : Nat) : Int) + 1
theorem QI.start {ls : List Nat} {t : Nt} (h : QS ls ls.length t) (hF : ∀ c ∈ ls, isF c) : QI ls 0 t := by
  refine ⟨by rw [h.fs, List.drop_length], h.fl, h.r0, fun x hx => (by rw [h.ac] at hx; cases hx), fun d h1 h9 p hp _ => ?_, fun j hj h0 => ?_, fun j hj _ h9 => by rw [Nat.sub_zero]; exact h.d j hj h9⟩
  · obtain ⟨_, h2, h3⟩ := h.b d h1 h9 p hp
    rw [Nat.zero_add]; exact ⟨h2, h3⟩
  · have := lateQ_pos (hF (ls.getD j 0) (by rw [List.getD_eq_getElem?_getD, List.getElem?_eq_getElem hj]; exact List.getElem_mem _))
    omega
theorem fold_new : ∀ (ps : List Pk) (s : Nt × List Int) (a : Ac), a ∈ (ps.foldl arr1 s).1.ac → a ∈ s.1.ac ∨ ∃ p ∈ ps, p.ack = false ∧ a.id = p.id ∧ a.bs = p.bs ∧ a.tk = ((s.1.now : Nat) : Int)
  | [], _, _, h => .inl h
  | p :: ps, s, a, h => by
    rcases fold_new ps (arr1 s p) a h with h1 | ⟨q, hq, h2⟩
    · unfold arr1 at h1
      split at h1
      · exact .inl h1
      · rename_i ha
        rw [show (hand (taken s.1 (accA p s.1.now)) (ackP p.id), s.2).1.ac = (taken s.1 (accA p s.1.now)).ac from hand_ac _ _] at h1
        unfold taken at h1
        split at h1
        · exact .inl h1
        · rcases List.mem_append.1 h1 with h1 | h1
          · exact .inl h1
          · rw [List.mem_singleton.1 h1]
            exact .inr ⟨p, by simp, by simpa using ha, rfl, rfl, rfl⟩
    · rw [arr1_now] at h2
      exact .inr ⟨q, by simp [hq], h2⟩
theorem lateQ_or {c : Nat} (h : isF c) : lateQ c ≤ 9 ∨ lateQ c = 100 := by
  unfold lateQ isF at *
  split
  · exact .inr rfl
  · split
    · exact .inl (by decide)
    · exact .inl (by omega)
theorem getD_mem {ls : List Nat} {j : Nat} (h : j < ls.length) : ls.getD j 0 ∈ ls := by
  rw [List.getD_eq_getElem?_getD, List.getElem?_eq_getElem h]
  exact List.getElem_mem _
theorem QI.tick {ls : List Nat} {k : Nat} {t : Nt} (h : QI ls k t) (hF : ∀ c ∈ ls, isF c) (hk : k < 50) : QI ls (k + 1) (tick t).1 := by
  obtain ⟨h1, h2, h3, h4, h5⟩ := tick_calm h.fs h.fl
  refine ⟨h1, by rw [tick_len]; exact h.fl, h2, fun x hx => ?_, fun d hd1 hd9 p hp ha => ?_, fun j hj hkk => ?_, fun j hj hkk h9 => ?_⟩
  · rcases fold_new (arrs t) (beg t, []) x hx with hx | ⟨p, hp, ha, hi, hbs, ht⟩
    · obtain ⟨e1, e2, j, e3, e4⟩ := h.a x hx
      exact ⟨e1, e2, j, e3, by omega⟩
    · obtain ⟨e2, j, e3, e4⟩ := h.b 1 (by omega) (by omega) p hp ha
      refine ⟨?_, by rw [hbs]; exact e2, j, by rw [hi]; exact e3, e4⟩
      rw [ht]
      show (1 : Int) ≤ ((t.now + 1 : Nat) : Int)
      omega
  · have key : p ∈ rowD t (d + 1) ∨ (d = 9 ∧ p ∈ rowD t 0) ∨ p.ack = true := by
      by_cases e1 : d = 1
      · subst e1
        rw [h3] at hp
        rcases List.mem_append.1 hp with hp | hp
        · exact .inl hp
        · exact .inr (.inr (acksOf_ack hp))
      · by_cases e9 : d = 9
        · subst e9
          rw [h5] at hp
          exact .inr (.inl ⟨rfl, hp⟩)
        · rw [h4 d (by omega) (by omega)] at hp
          exact .inl hp
    rcases key with hp | ⟨_, hp⟩ | hp
    · by_cases e9 : d = 9
      · subst e9
        have : rowD t (9 + 1) = rowD t 0 := by unfold rowD; rw [show (t.now + (9 + 1)) % 10 = (t.now + 0) % 10 from by omega]
        rw [this, h.r0] at hp
        cases hp
      · obtain ⟨e2, j, e3, e4⟩ := h.b (d + 1) (by omega) (by omega) p hp ha
        exact ⟨e2, j, e3, by omega⟩
    · rw [h.r0] at hp; cases hp
    · rw [ha] at hp; cases hp
  · by_cases hk2 : lateQ (ls.getD j 0) ≤ k
    · obtain ⟨x, hx, e⟩ := h.c j hj hk2
      exact ⟨x, fold_sub _ _ x hx, e⟩
    · have e1 : lateQ (ls.getD j 0) = k + 1 := by omega
      by_cases h9 : lateQ (ls.getD j 0) ≤ 9
      · obtain ⟨p, hp, ha, hid⟩ := h.d j hj (by omega) h9
        rw [show lateQ (ls.getD j 0) - k = 1 from by omega] at hp
        obtain ⟨b, hb, e⟩ := fold_has (arrs t) (beg t, []) p hp ha
        exact ⟨b, hb, by rw [e, hid]⟩
      · rcases lateQ_or (hF _ (getD_mem hj)) with q | q <;> omega
  · obtain ⟨p, hp, ha, hid⟩ := h.d j hj (by omega) h9
    refine ⟨p, ?_, ha, hid⟩
    by_cases e1 : lateQ (ls.getD j 0) - (k + 1) = 1
    · rw [e1, h3]
      rw [show lateQ (ls.getD j 0) - k = 2 from by omega] at hp
      exact List.mem_append.2 (.inl hp)
    · rw [h4 _ (by omega) (by omega), show lateQ (ls.getD j 0) - (k + 1) + 1 = lateQ (ls.getD j 0) - k from by omega]
      exact hp
theorem QI.run {ls : List Nat} {t : Nt} (h : QI ls 0 t) (hF : ∀ c ∈ ls, isF c) : ∀ k, k ≤ 50 → QI ls k (run t k)
  | 0, _ => h
  | k + 1, hk => (QI.run h hF k (by omega)).tick hF (by omega)
/-- Accepted just from its tick on. -/
theorem QI.acc {ls : List Nat} {k : Nat} {t : Nt} (h : QI ls k t) {j : Nat} (hj : j < ls.length) : (lateQ (ls.getD j 0) ≤ k → 1 ≤ accT t.ac (((j : Nat) : Int) + 1)) ∧ (k < lateQ (ls.getD j 0) → accT t.ac (((j : Nat) : Int) + 1) = 0) := by
  refine ⟨fun hk => accT_pos (h.c j hj hk) (fun x hx => (h.a x hx).1), fun hk => ?_⟩
  unfold accT
  have : t.ac.find? (fun a => a.id == ((j : Nat) : Int) + 1) = none := by
    rw [List.find?_eq_none]
    intro x hx
    obtain ⟨_, _, i, e1, e2⟩ := h.a x hx
    simp only [beq_iff_eq]
    intro q
    rw [q] at e1
    have : i = j := by omega
    subst this
    omega
  rw [this]
  rfl
end NwM
end Go.Proofs.Ytcnhcdlbippjoaa
