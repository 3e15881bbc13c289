/-
  Ours: a calm network (pure): what is sent is accepted and acknowledged; behind ten ticks nothing is on its way.
-/
import Derived.Test.YtcnhcdlbippjoaaNwOp
namespace Go.Proofs.Ytcnhcdlbippjoaa
open Go.RowKit NwM
namespace NwM
/-- The row that arrives so many ticks later. -/
def rowD (t : Nt) (d : Nat) : List Pk := t.fl.getD ((t.now + d) % 10) []
/-- Every accepted number bears its tick; the place of now is empty. -/
structure Tk (t : Nt) : Prop where
  ac : ∀ a ∈ t.ac, 1 ≤ a.tk ∧ a.tk ≤ t.now
  here : rowD t 0 = []
theorem lay1_row {p : Pk} {t : Nt} {d i : Nat} (hl : t.fl.length = 10) : (lay1 p t d).fl.getD i [] = if (t.now + d) % 10 = i then t.fl.getD i [] ++ [p] else t.fl.getD i [] := by
  unfold lay1
  show (t.fl.set _ _).getD i [] = _
  rw [getD_set _ _ _ _ _ (by omega)]
  split
  · rename_i h; rw [h]
  · rfl
theorem fold_row {p : Pk} {i : Nat} : ∀ (ds : List Nat) (t : Nt), t.fl.length = 10 → (∀ d ∈ ds, (t.now + d) % 10 ≠ i) → (ds.foldl (lay1 p) t).fl.getD i [] = t.fl.getD i []
  | [], t, _, _ => rfl
  | d :: ds, t, hl, h => by
    rw [List.foldl_cons, fold_row ds (lay1 p t d) (by rw [lay1_len]; exact hl) (fun e he => h e (by simp [he])), lay1_row hl, if_neg (h d (by simp))]
theorem head_isF {t : Nt} (h : ∀ f ∈ t.fs, isF f) : isF (t.fs.headD 49) := by
  cases hfs : t.fs with
  | nil => exact .inr (.inr ⟨by decide, by decide⟩)
  | cons f fs => exact h f (by rw [hfs]; simp)
theorem hand_here {t : Nt} {p : Pk} (hl : t.fl.length = 10) (hf : ∀ f ∈ t.fs, isF f) : rowD (hand t p) 0 = rowD t 0 := by
  unfold rowD
  rw [hand_now]
  refine fold_row _ (fate1 t) hl (fun d hd => ?_)
  have := dl_ok (head_isF hf) hd
  show (t.now + d) % 10 ≠ (t.now + 0) % 10
  omega
theorem Tk.hand {t : Nt} (h : Tk t) {p : Pk} (hl : t.fl.length = 10) (hf : ∀ f ∈ t.fs, isF f) : Tk (hand t p) := ⟨by rw [hand_ac, hand_now]; exact h.ac, by rw [hand_here hl hf]; exact h.here⟩
theorem Tk.taken {t : Nt} (h : Tk t) {a : Ac} (ha : 1 ≤ a.tk ∧ a.tk ≤ t.now) : Tk (taken t a) := by
  refine ⟨fun b hb => ?_, ?_⟩
  · rw [taken_now]
    unfold NwM.taken at hb
    split at hb
    · exact h.ac b hb
    · rcases List.mem_append.1 hb with hb | hb
      · exact h.ac b hb
      · rw [List.mem_singleton.1 hb]; exact ha
  · unfold rowD
    rw [taken_fl, taken_now]; exact h.here
theorem hand_fok {t : Nt} (p : Pk) (hf : ∀ f ∈ t.fs, isF f) : ∀ f ∈ (hand t p).fs, isF f := fun f hm => hf f (by rw [hand_fs] at hm; exact List.mem_of_mem_tail hm)
theorem Tk.arr1 {s : Nt × List Int} (h : Tk s.1) {p : Pk} (hn : 1 ≤ s.1.now) (hl : s.1.fl.length = 10) (hf : ∀ f ∈ s.1.fs, isF f) : Tk (NwM.arr1 s p).1 ∧ ∀ f ∈ (NwM.arr1 s p).1.fs, isF f := by
  unfold NwM.arr1
  split
  · exact ⟨h, hf⟩
  · have h1 := h.taken (a := accA p s.1.now) ⟨by show (1 : Int) ≤ ((s.1.now : Nat) : Int); omega, Int.le_refl _⟩
    have hf1 : ∀ f ∈ (NwM.taken s.1 (accA p s.1.now)).fs, isF f := by rw [taken_fs]; exact hf
    exact ⟨h1.hand (by rw [taken_fl]; exact hl) hf1, hand_fok _ hf1⟩
theorem Tk.fold : ∀ (ps : List Pk) (s : Nt × List Int), Tk s.1 → 1 ≤ s.1.now → s.1.fl.length = 10 → (∀ f ∈ s.1.fs, isF f) → Tk (ps.foldl NwM.arr1 s).1
  | [], s, h, _, _, _ => h
  | p :: ps, s, h, hn, hl, hf => by
    obtain ⟨h1, h2⟩ := h.arr1 (p := p) hn hl hf
    exact Tk.fold ps _ h1 (by rw [arr1_now]; exact hn) (by rw [arr1_len]; exact hl) h2
theorem beg_row {t : Nt} (hl : t.fl.length = 10) (i : Nat) : (beg t).fl.getD i [] = if (t.now + 1) % 10 = i then [] else t.fl.getD i [] := by
  show (t.fl.set _ []).getD i [] = _
  rw [getD_set _ _ _ _ _ (by omega)]
theorem Tk.beg {t : Nt} (h : Tk t) (hl : t.fl.length = 10) : Tk (beg t) := by
  refine ⟨fun a ha => ?_, ?_⟩
  · have := h.ac a ha
    refine ⟨this.1, Int.le_trans this.2 ?_⟩
    show ((t.now : Nat) : Int) ≤ ((t.now + 1 : Nat) : Int)
    omega
  · show (NwM.beg t).fl.getD ((t.now + 1 + 0) % 10) [] = []
    rw [beg_row hl, if_pos (by omega)]
theorem Tk.tick {t : Nt} (h : Tk t) (hl : t.fl.length = 10) (hf : ∀ f ∈ t.fs, isF f) : Tk (tick t).1 := Tk.fold _ _ (h.beg hl) (by show 1 ≤ t.now + 1; omega) (by show (t.fl.set _ _).length = 10; simpa using hl) hf
theorem Tk.nt0 : Tk NwM.nt0 := ⟨fun a ha => (by cases ha), rfl⟩
theorem Tk.play {t t' : Nt} {o : OpN} {ids : List Int} (h : Tk t) (p : Play t o t' ids) (hl : t.fl.length = 10) (hf : ∀ f ∈ t.fs, isF f) : Tk t' := by
  cases p with
  | fate =>
    obtain ⟨e1, e2, e3⟩ := fateT_fl t o.lt
    exact ⟨by rw [e2, e3]; exact h.ac, by unfold rowD; rw [e1, e3]; exact h.here⟩
  | calm => exact ⟨h.ac, h.here⟩
  | send => exact h.hand hl hf
  | tick => exact h.tick hl hf
  | none => exact h
theorem accT_pos {l : List Ac} {i : Int} (h : ∃ a ∈ l, a.id = i) (hp : ∀ a ∈ l, 1 ≤ a.tk) : 1 ≤ accT l i := by
  unfold accT
  cases hq : l.find? (fun a => a.id == i) with
  | none =>
    rw [List.find?_eq_none] at hq
    obtain ⟨a, ha, e⟩ := h
    exact absurd (by simpa using e) (hq a ha)
  | some a => exact hp a (List.mem_of_find?_eq_some hq)

/-! What arrives. -/
theorem taken_has (t : Nt) (a : Ac) : ∃ b ∈ (taken t a).ac, b.id = a.id := by
  unfold taken
  split
  · rename_i hk
    rw [known_iff] at hk
    obtain ⟨b, hb, e⟩ := List.mem_map.1 hk
    exact ⟨b, hb, e⟩
  · exact ⟨a, List.mem_append.2 (.inr (List.mem_singleton.2 rfl)), rfl⟩
theorem taken_sub (t : Nt) (a b : Ac) (h : b ∈ t.ac) : b ∈ (taken t a).ac := by
  unfold taken
  split
  · exact h
  · exact List.mem_append.2 (.inl h)
theorem arr1_sub (s : Nt × List Int) (p : Pk) (b : Ac) (h : b ∈ s.1.ac) : b ∈ (arr1 s p).1.ac := by
  unfold arr1
  split
  · exact h
  · show b ∈ (hand _ _).ac
    rw [hand_ac]
    exact taken_sub _ _ _ h
theorem fold_sub : ∀ (ps : List Pk) (s : Nt × List Int) (b : Ac), b ∈ s.1.ac → b ∈ (ps.foldl arr1 s).1.ac
  | [], _, _, h => h
  | p :: ps, s, b, h => fold_sub ps _ b (arr1_sub s p b h)
theorem fold_has : ∀ (ps : List Pk) (s : Nt × List Int) (p : Pk), p ∈ ps → p.ack = false → ∃ b ∈ (ps.foldl arr1 s).1.ac, b.id = p.id
  | q :: ps, s, p, h, ha => by
    rcases List.mem_cons.1 h with rfl | h
    · have : ∃ b ∈ (arr1 s p).1.ac, b.id = p.id := by
        unfold arr1
        rw [if_neg (by rw [ha]; decide)]
        show ∃ b ∈ (hand _ _).ac, _
        rw [hand_ac]
        exact taken_has _ _
      obtain ⟨b, hb, e⟩ := this
      exact ⟨b, fold_sub ps _ b hb, e⟩
    · exact fold_has ps _ p h ha
theorem arr1_ids (s : Nt × List Int) (p : Pk) (i : Int) (h : i ∈ s.2) : i ∈ (arr1 s p).2 := by
  unfold arr1
  split
  · exact List.mem_append.2 (.inl h)
  · exact h
theorem fold_ids : ∀ (ps : List Pk) (s : Nt × List Int) (i : Int), i ∈ s.2 → i ∈ (ps.foldl arr1 s).2
  | [], _, _, h => h
  | p :: ps, s, i, h => fold_ids ps _ i (arr1_ids s p i h)
theorem fold_told : ∀ (ps : List Pk) (s : Nt × List Int) (p : Pk), p ∈ ps → p.ack = true → p.id ∈ (ps.foldl arr1 s).2
  | q :: ps, s, p, h, ha => by
    rcases List.mem_cons.1 h with rfl | h
    · refine fold_ids ps _ _ ?_
      unfold arr1
      rw [if_pos ha]
      exact List.mem_append.2 (.inr (List.mem_singleton.2 rfl))
    · exact fold_told ps _ p h ha
/-- A calm network: the rows behind the arrivals. -/
def acksOf (ps : List Pk) : List Pk := (ps.filter (fun p => !p.ack)).map (fun p => ackP p.id)
theorem hand_calmly {t : Nt} (p : Pk) (hf : t.fs = []) : hand t p = lay1 p (fate1 t) 1 := by
  unfold hand
  rw [hf]
  rfl
theorem fold_calm : ∀ (ps : List Pk) (s : Nt × List Int), s.1.fs = [] → s.1.fl.length = 10 → (ps.foldl arr1 s).1.fs = [] ∧ ∀ i, (ps.foldl arr1 s).1.fl.getD i [] = if (s.1.now + 1) % 10 = i then s.1.fl.getD i [] ++ acksOf ps else s.1.fl.getD i []
  | [], s, hf, hl => ⟨hf, fun i => by simp [acksOf]⟩
  | p :: ps, s, hf, hl => by
    obtain ⟨s1, ids⟩ := s
    by_cases ha : p.ack = true
    · have e1 : arr1 (s1, ids) p = (s1, ids ++ [p.id]) := by unfold arr1; rw [if_pos ha]
      obtain ⟨h1, h2⟩ := fold_calm ps (s1, ids ++ [p.id]) hf hl
      rw [List.foldl_cons, e1]
      refine ⟨h1, fun i => ?_⟩
      rw [h2 i]
      have : acksOf (p :: ps) = acksOf ps := by simp [acksOf, ha]
      rw [this]
    · have ha' : p.ack = false := by simpa using ha
      have e1 : arr1 (s1, ids) p = (lay1 (ackP p.id) (fate1 (taken s1 (accA p s1.now))) 1, ids) := by
        unfold arr1
        rw [if_neg ha, hand_calmly _ (by rw [taken_fs]; exact hf)]
      have hf1 : (lay1 (ackP p.id) (fate1 (taken s1 (accA p s1.now))) 1).fs = [] := by show (taken s1 (accA p s1.now)).fs.tail = []; rw [taken_fs, hf]; rfl
      have hl1 : (fate1 (taken s1 (accA p s1.now))).fl.length = 10 := by show (taken s1 (accA p s1.now)).fl.length = 10; rw [taken_fl]; exact hl
      obtain ⟨h1, h2⟩ := fold_calm ps (lay1 (ackP p.id) (fate1 (taken s1 (accA p s1.now))) 1, ids) hf1 (by rw [lay1_len]; exact hl1)
      rw [List.foldl_cons, e1]
      refine ⟨h1, fun i => ?_⟩
      rw [h2 i]
      have en : (lay1 (ackP p.id) (fate1 (taken s1 (accA p s1.now))) 1).now = s1.now := taken_now _ _
      have er : (lay1 (ackP p.id) (fate1 (taken s1 (accA p s1.now))) 1).fl.getD i [] = if (s1.now + 1) % 10 = i then s1.fl.getD i [] ++ [ackP p.id] else s1.fl.getD i [] := by
        rw [lay1_row hl1]
        show (if ((taken s1 (accA p s1.now)).now + 1) % 10 = i then (taken s1 (accA p s1.now)).fl.getD i [] ++ _ else (taken s1 (accA p s1.now)).fl.getD i []) = _
        rw [taken_now, taken_fl]
      show (if ((lay1 (ackP p.id) (fate1 (taken s1 (accA p s1.now))) 1).now + 1) % 10 = i then _ else _) = _
      rw [en, er]
      have ea : acksOf (p :: ps) = ackP p.id :: acksOf ps := by simp [acksOf, ha']
      rw [ea]
      by_cases hi : (s1.now + 1) % 10 = i
      · rw [if_pos hi, if_pos hi, if_pos hi, List.append_assoc]; rfl
      · rw [if_neg hi, if_neg hi, if_neg hi]
theorem tick_calm {t : Nt} (hf : t.fs = []) (hl : t.fl.length = 10) : (tick t).1.fs = [] ∧ rowD (tick t).1 0 = [] ∧ rowD (tick t).1 1 = rowD t 2 ++ acksOf (arrs t) ∧ (∀ d, 2 ≤ d → d ≤ 8 → rowD (tick t).1 d = rowD t (d + 1)) ∧ rowD (tick t).1 9 = rowD t 0 := by
  obtain ⟨h1, h2⟩ := fold_calm (arrs t) (beg t, []) hf (by show (t.fl.set _ _).length = 10; simpa using hl)
  have key : ∀ d, rowD (tick t).1 d = if (t.now + 1 + 1) % 10 = (t.now + 1 + d) % 10 then (if (t.now + 1) % 10 = (t.now + 1 + d) % 10 then [] else t.fl.getD ((t.now + 1 + d) % 10) []) ++ acksOf (arrs t) else (if (t.now + 1) % 10 = (t.now + 1 + d) % 10 then [] else t.fl.getD ((t.now + 1 + d) % 10) []) := fun d => by
    show (tick t).1.fl.getD (((tick t).1.now + d) % 10) [] = _
    rw [tick_now]
    have := h2 ((t.now + 1 + d) % 10)
    rw [beg_row hl] at this
    exact this
  refine ⟨h1, ?_, ?_, fun d h2 h8 => ?_, ?_⟩
  · rw [key, if_neg (by omega), if_pos (by omega)]
  · rw [key, if_pos (by omega), if_neg (by omega)]
    unfold rowD
    rw [show t.now + 1 + 1 = t.now + 2 from by omega]
  · rw [key, if_neg (by omega), if_neg (by omega)]
    unfold rowD
    rw [show t.now + 1 + d = t.now + (d + 1) from by omega]
  · rw [key, if_neg (by omega), if_neg (by omega)]
    unfold rowD
    rw [show (t.now + 1 + 9) % 10 = (t.now + 0) % 10 from by omega]
/-- Behind k ticks of calm. -/
structure Ca (k : Nat) (t : Nt) : Prop where
  fs : t.fs = []
  fl : t.fl.length = 10
  r0 : rowD t 0 = []
  far : ∀ d, 2 ≤ d → d ≤ 9 → 10 - k ≤ d → rowD t d = []
  a1 : 9 ≤ k → ∀ p ∈ rowD t 1, p.ack = true
  e1 : 10 ≤ k → rowD t 1 = []
theorem arrs_row (t : Nt) : arrs t = rowD t 1 := rfl
theorem acksOf_nil {ps : List Pk} (h : ∀ p ∈ ps, p.ack = true) : acksOf ps = [] := by
  unfold acksOf
  rw [List.filter_eq_nil_iff.2 (fun p hp => by rw [h p hp]; decide)]
  rfl
theorem acksOf_ack {ps : List Pk} {p : Pk} (h : p ∈ acksOf ps) : p.ack = true := by
  obtain ⟨q, _, rfl⟩ := List.mem_map.1 h
  rfl
theorem Ca.tick {k : Nat} {t : Nt} (h : Ca k t) : Ca (k + 1) (tick t).1 := by
  obtain ⟨h1, h2, h3, h4, h5⟩ := tick_calm h.fs h.fl
  have e2 : 8 ≤ k → rowD t 2 = [] := fun hk => h.far 2 (by omega) (by omega) (by omega)
  refine ⟨h1, by rw [tick_len]; exact h.fl, h2, fun d hd hd9 hk => ?_, fun hk p hp => ?_, fun hk => ?_⟩
  · by_cases h9 : d = 9
    · rw [h9, h5]; exact h.r0
    · rw [h4 d hd (by omega)]; exact h.far (d + 1) (by omega) (by omega) (by omega)
  · rw [h3, e2 (by omega), List.nil_append] at hp
    exact acksOf_ack hp
  · rw [h3, e2 (by omega), List.nil_append, arrs_row]
    exact acksOf_nil (h.a1 (by omega))
theorem Ca.run {t : Nt} (h : Ca 0 t) : ∀ k, Ca k (run t k)
  | 0 => h
  | k + 1 => (Ca.run h k).tick
theorem Ca.fly {t : Nt} (h : Ca 10 t) : flying t = 0 := by
  have all : ∀ i, i < 10 → t.fl.getD i [] = [] := fun i hi => by
    obtain ⟨d, hd, e⟩ : ∃ d, d < 10 ∧ (t.now + d) % 10 = i := ⟨(i + 10 - t.now % 10) % 10, by omega, by omega⟩
    rw [← e]
    show rowD t d = []
    by_cases h0 : d = 0
    · rw [h0]; exact h.r0
    · by_cases h1 : d = 1
      · rw [h1]; exact h.e1 (by omega)
      · exact h.far d (by omega) (by omega) (by omega)
  have hl := h.fl
  unfold flying
  have : ∀ l : List (List Pk), (∀ r ∈ l, r = []) → (l.map List.length).sum = 0 := fun l hl => by
    induction l with
    | nil => rfl
    | cons r l ih =>
      rw [List.map_cons, List.sum_cons, hl r (by simp), ih (fun x hx => hl x (by simp [hx]))]
      rfl
  refine this t.fl (fun r hr => ?_)
  obtain ⟨i, hi, e⟩ := List.getElem_of_mem hr
  have := all i (by omega)
  rw [List.getD_eq_getElem?_getD, List.getElem?_eq_getElem hi] at this
  rw [← e]; exact this
/-- A notice that is sent on a calm network. -/
structure Sent (t : Nt) (i : Int) (p : Pk) : Prop where
  ca : Ca 0 (hand (calm t) p)
  inn : p ∈ arrs (hand (calm t) p)
theorem sent_calm {t : Nt} {p : Pk} (hl : t.fl.length = 10) (h0 : rowD t 0 = []) (i : Int) : Sent t i p := by
  have e := hand_calmly (t := calm t) p rfl
  have hl1 : (fate1 (calm t)).fl.length = 10 := hl
  refine ⟨⟨by rw [hand_fs]; rfl, by rw [hand_len]; exact hl, ?_, fun d _ h9 h => by omega, fun h => by omega, fun h => by omega⟩, ?_⟩
  · rw [hand_here (t := calm t) hl (fun f hf => by cases hf)]; exact h0
  · rw [e]
    unfold arrs
    show p ∈ (lay1 p (fate1 (calm t)) 1).fl.getD ((t.now + 1) % 10) []
    rw [lay1_row hl1]
    show p ∈ (if (t.now + 1) % 10 = (t.now + 1) % 10 then _ else _)
    rw [if_pos rfl]
    exact List.mem_append.2 (.inr (List.mem_singleton.2 rfl))
theorem calm_told {t : Nt} {p : Pk} (hc : Ca 0 t) (hp : p ∈ arrs t) (ha : p.ack = false) : (∃ b ∈ (tick t).1.ac, b.id = p.id) ∧ p.id ∈ (tick (tick t).1).2 := by
  refine ⟨fold_has _ _ p hp ha, ?_⟩
  have h3 := (tick_calm hc.fs hc.fl).2.2.1
  refine fold_told (arrs (tick t).1) _ (ackP p.id) ?_ rfl
  rw [arrs_row, h3]
  refine List.mem_append.2 (.inr ?_)
  unfold acksOf
  exact List.mem_map.2 ⟨p, List.mem_filter.2 ⟨hp, by rw [ha]; rfl⟩, rfl⟩
end NwM
end Go.Proofs.Ytcnhcdlbippjoaa
