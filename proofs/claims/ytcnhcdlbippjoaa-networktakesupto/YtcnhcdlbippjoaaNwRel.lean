/-
  Ours: the program's network beside the reference's (pure).
-/
import Derived.Test.YtcnhcdlbippjoaaNwRf9
import Derived.Test.YtcnhcdlbippjoaaNwCalM
namespace Go.Proofs.Ytcnhcdlbippjoaa
open Go.RowKit NwM
namespace NwM
def pk0 (p : Pk) : Bool × Int × List Nat := (p.ack, p.id, p.bs)
def ms0 (m : Ms) : Bool × Int × List Nat := (m.ack, m.id, m.bs)
def ac0 (a : Ac) : Int × Int × List Nat := (a.id, a.tk, a.bs)
/-- The program's network, and the reference's of the same story. -/
structure Rel (t : Nt) (r : RNt) : Prop where
  now : t.now = r.now
  fs : t.fs = r.fs
  ac : t.ac.map ac0 = r.ac.map ac0
  len : t.fl.length = 10
  fok : ∀ f ∈ t.fs, isF f
  here : rowD t 0 = []
  row : ∀ d, 1 ≤ d → d ≤ 9 → (rowD t d).map pk0 = (r.ms.filter (isDue (r.now + d))).map ms0
  bnd : ∀ m ∈ r.ms, m.at' ≤ r.now + 9 ∧ m.ag ≤ r.now + 9 ∧ m.at' ≠ m.ag
theorem Rel.begin : Rel nt0 rn0 := by
  have e : ∀ i, (List.replicate 10 ([] : List Pk)).getD i [] = [] := fun i => by
    rw [List.getD_eq_getElem?_getD, List.getElem?_replicate]; split <;> rfl
  refine ⟨rfl, rfl, rfl, rfl, (fun f hf => by cases hf), rfl, fun d h1 h9 => ?_, (fun m hm => by cases hm)⟩
  show (List.map pk0 ((List.replicate 10 ([] : List Pk)).getD _ [])) = _
  rw [e]; rfl
theorem mod_ne {n k d : Nat} (hk : 1 ≤ k ∧ k ≤ 9) (hd : 1 ≤ d ∧ d ≤ 9) (h : k ≠ d) : (n + k) % 10 ≠ (n + d) % 10 := by omega
theorem hand_row {t : Nt} {p : Pk} (hl : t.fl.length = 10) (hf : ∀ f ∈ t.fs, isF f) {d : Nat} (hd : 1 ≤ d ∧ d ≤ 9) : rowD (hand t p) d = rowD t d ++ (if d ∈ dl (t.fs.headD 49) then [p] else []) := by
  have hh := head_isF hf
  unfold rowD
  rw [hand_now]
  unfold hand
  generalize t.fs.headD 49 = f at *
  by_cases h1 : f = 120
  · subst h1; simp [dl, fate1]
  · by_cases h2 : f = 100
    · subst h2
      have e : dl 100 = [1, 2] := rfl
      rw [e]
      show (lay1 p (lay1 p (fate1 t) 1) 2).fl.getD _ [] = _
      rw [lay1_row (by rw [lay1_len]; exact hl), lay1_row (t := fate1 t) hl]
      show (if (t.now + 2) % 10 = (t.now + d) % 10 then (if (t.now + 1) % 10 = (t.now + d) % 10 then t.fl.getD _ [] ++ [p] else t.fl.getD _ []) ++ [p] else if (t.now + 1) % 10 = (t.now + d) % 10 then t.fl.getD _ [] ++ [p] else t.fl.getD _ []) = _
      by_cases q1 : d = 1
      · subst q1; rw [if_neg (by omega), if_pos rfl, if_pos (by simp)]
      · by_cases q2 : d = 2
        · subst q2; rw [if_pos rfl, if_neg (by omega), if_pos (by simp)]
        · rw [if_neg (mod_ne ⟨by omega, by omega⟩ hd (fun e => q2 e.symm)), if_neg (mod_ne ⟨by omega, by omega⟩ hd (fun e => q1 e.symm)), if_neg (by simp; omega), List.append_nil]
    · have h3 : 49 ≤ f ∧ f ≤ 57 := by unfold isF at hh; omega
      have e : dl f = [f - 48] := by unfold dl; rw [if_neg h1, if_neg h2]
      rw [e]
      show (lay1 p (fate1 t) (f - 48)).fl.getD _ [] = _
      rw [lay1_row (t := fate1 t) hl]
      show (if (t.now + (f - 48)) % 10 = (t.now + d) % 10 then t.fl.getD _ [] ++ [p] else t.fl.getD _ []) = _
      by_cases q1 : f - 48 = d
      · subst q1; rw [if_pos rfl, if_pos (by simp)]
      · rw [if_neg (mod_ne ⟨by omega, by omega⟩ hd q1), if_neg (by simp; omega), List.append_nil]
theorem rhand_row {r : RNt} {p : Pk} (hf : ∀ f ∈ r.fs, isF f) {d : Nat} (hd : 1 ≤ d ∧ d ≤ 9) : ((rhand r p).ms.filter (isDue (r.now + d))).map ms0 = (r.ms.filter (isDue (r.now + d))).map ms0 ++ (if d ∈ dl (r.fs.headD 49) then [pk0 p] else []) := by
  have hh : isF (r.fs.headD 49) := by
    cases hfs : r.fs with
    | nil => exact .inr (.inr ⟨by decide, by decide⟩)
    | cons f fs => exact hf f (by rw [hfs]; simp)
  unfold rhand
  generalize r.fs.headD 49 = f at *
  by_cases h1 : f = 120
  · subst h1; rw [if_pos rfl]; simp [dl, rfate1]
  · rw [if_neg h1]
    show ((r.ms ++ [rmsg p r.now f]).filter _).map ms0 = _
    rw [List.filter_append, List.map_append]
    congr 1
    by_cases h2 : f = 100
    · subst h2
      have e : dl 100 = [1, 2] := rfl
      have e2 : rmsg p r.now 100 = ⟨p.ack, p.id, p.ba, p.bn, p.bc, p.bs, r.now + 1, r.now + 2⟩ := rfl
      rw [e, e2]
      by_cases q : d = 1 ∨ d = 2
      · rw [if_pos (by simpa using q), List.filter_cons_of_pos (by unfold isDue; simp; omega)]; rfl
      · rw [if_neg (by simpa using q), List.filter_cons_of_neg (by unfold isDue; simp; omega)]; rfl
    · have h3 : 49 ≤ f ∧ f ≤ 57 := by unfold isF at hh; omega
      have e : dl f = [f - 48] := by unfold dl; rw [if_neg h1, if_neg h2]
      have e2 : rmsg p r.now f = ⟨p.ack, p.id, p.ba, p.bn, p.bc, p.bs, r.now + (f - 48), 0⟩ := by unfold rmsg; rw [if_neg h2]
      rw [e, e2]
      by_cases q : d = f - 48
      · rw [if_pos (by simpa using q), List.filter_cons_of_pos (by unfold isDue; simp; omega)]; rfl
      · rw [if_neg (by simpa using q), List.filter_cons_of_neg (by unfold isDue; simp; omega)]; rfl
theorem Rel.hand {t : Nt} {r : RNt} (h : Rel t r) {p q : Pk} (e : pk0 p = pk0 q) : Rel (hand t p) (rhand r q) := by
  have hf : ∀ f ∈ r.fs, isF f := fun f hf => h.fok f (by rw [h.fs]; exact hf)
  refine ⟨by rw [hand_now, rhand_now]; exact h.now, by rw [hand_fs, rhand_fs, h.fs], by rw [hand_ac, rhand_ac]; exact h.ac, by rw [hand_len]; exact h.len, hand_fok p h.fok, by rw [hand_here h.len h.fok]; exact h.here, fun d h1 h9 => ?_, fun m hm => ?_⟩
  · rw [hand_row h.len h.fok ⟨h1, h9⟩, List.map_append, rhand_now, rhand_row hf ⟨h1, h9⟩, h.row d h1 h9, h.fs]
    congr 1
    split
    · rw [List.map_cons, e]; rfl
    · rfl
  · rw [rhand_now]
    have hh : isF (r.fs.headD 49) := by rw [← h.fs]; exact head_isF h.fok
    unfold rhand at hm
    split at hm
    · exact h.bnd m hm
    · rcases List.mem_append.1 hm with hm | hm
      · exact h.bnd m hm
      · rw [List.mem_singleton.1 hm]
        rename_i h1
        unfold rmsg
        split
        · show r.now + 1 ≤ _ ∧ r.now + 2 ≤ _ ∧ r.now + 1 ≠ r.now + 2; omega
        · unfold isF at hh
          show r.now + (r.fs.headD 49 - 48) ≤ _ ∧ 0 ≤ _ ∧ r.now + (r.fs.headD 49 - 48) ≠ 0
          omega
theorem Rel.known {t : Nt} {r : RNt} (h : Rel t r) (i : Int) : NwM.known t i = rknown r i := by
  have key : ∀ l : List Ac, l.any (fun a => a.id == i) = (l.map ac0).any (fun x => x.1 == i) := fun l => by rw [List.any_map]; rfl
  unfold NwM.known rknown
  rw [key, key, h.ac]
theorem Rel.taken {t : Nt} {r : RNt} (h : Rel t r) {a b : Ac} (e : ac0 a = ac0 b) : Rel (NwM.taken t a) (rtaken r b) := by
  have ei : a.id = b.id := congrArg (·.1) e
  unfold NwM.taken rtaken
  rw [h.known, ei]
  split
  · exact h
  · exact ⟨h.now, h.fs, by show (t.ac ++ [a]).map ac0 = (r.ac ++ [b]).map ac0; rw [List.map_append, List.map_append, h.ac, List.map_cons, List.map_cons, e], h.len, h.fok, h.here, h.row, h.bnd⟩
theorem Rel.arr {t : Nt} {r : RNt} (h : Rel t r) {p : Pk} {m : Ms} (e : pk0 p = ms0 m) (ids : List Int) : Rel (arr1 (t, ids) p).1 (rstep (r, ids) m).1 ∧ (arr1 (t, ids) p).2 = (rstep (r, ids) m).2 := by
  have ea : p.ack = m.ack := congrArg (·.1) e
  have ei : p.id = m.id := congrArg (·.2.1) e
  have eb : p.bs = m.bs := congrArg (·.2.2) e
  unfold arr1 rstep
  rw [ea]
  split
  · exact ⟨h, by show ids ++ [p.id] = ids ++ [m.id]; rw [ei]⟩
  · refine ⟨?_, rfl⟩
    show Rel (NwM.hand (NwM.taken t (accA p t.now)) (ackP p.id)) (rarr r m)
    unfold rarr
    rw [ei]
    refine Rel.hand (Rel.taken h ?_) rfl
    show (p.id, ((t.now : Nat) : Int), p.bs) = (m.id, ((r.now : Nat) : Int), m.bs)
    rw [ei, eb, h.now]
theorem Rel.fold : ∀ (ps : List Pk) (ms : List Ms) (t : Nt) (r : RNt) (ids : List Int), ps.map pk0 = ms.map ms0 → Rel t r → Rel (ps.foldl arr1 (t, ids)).1 (ms.foldl rstep (r, ids)).1 ∧ (ps.foldl arr1 (t, ids)).2 = (ms.foldl rstep (r, ids)).2
  | [], [], _, _, _, _, h => ⟨h, rfl⟩
  | [], _ :: _, _, _, _, e, _ => by cases e
  | _ :: _, [], _, _, _, e, _ => by cases e
  | p :: ps, m :: ms, t, r, ids, e, h => by
    rw [List.map_cons, List.map_cons] at e
    injection e with e1 e2
    obtain ⟨h1, h2⟩ := h.arr e1 ids
    rw [List.foldl_cons, List.foldl_cons]
    have q1 : arr1 (t, ids) p = ((arr1 (t, ids) p).1, (arr1 (t, ids) p).2) := rfl
    have q2 : rstep (r, ids) m = ((rstep (r, ids) m).1, (arr1 (t, ids) p).2) := by rw [h2]
    rw [q1, q2]
    exact Rel.fold ps ms _ _ _ e2 h1
theorem Rel.beg {t : Nt} {r : RNt} (h : Rel t r) : Rel (NwM.beg t) (rbeg r) := by
  have gs : ∀ j, (t.fl.set ((t.now + 1) % 10) []).getD j [] = if (t.now + 1) % 10 = j then [] else t.fl.getD j [] := fun j => getD_set _ _ _ _ _ (by rw [h.len]; omega)
  refine ⟨by show t.now + 1 = r.now + 1; rw [h.now], h.fs, h.ac, by show (t.fl.set _ _).length = 10; rw [List.length_set]; exact h.len, h.fok, ?_, fun d h1 h9 => ?_, fun m hm => ?_⟩
  · show (t.fl.set ((t.now + 1) % 10) []).getD ((t.now + 1 + 0) % 10) [] = []
    rw [gs, if_pos (by omega)]
  · show ((t.fl.set ((t.now + 1) % 10) []).getD ((t.now + 1 + d) % 10) []).map pk0 = ((rleft r).filter (isDue (r.now + 1 + d))).map ms0
    rw [gs, if_neg (by omega)]
    unfold rleft
    rw [List.filter_filter]
    have ef : r.ms.filter (fun m => isDue (r.now + 1 + d) m && isLeft (r.now + 1) m) = r.ms.filter (isDue (r.now + (d + 1))) := List.filter_congr fun m _ => by
      have e1 : r.now + 1 + d = r.now + (d + 1) := by omega
      rw [e1]
      unfold isDue isLeft
      rw [Bool.eq_iff_iff]
      simp
      omega
    rw [ef]
    by_cases q : d = 9
    · subst q
      have e0 : (t.now + 1 + 9) % 10 = (t.now + 0) % 10 := by omega
      rw [e0]
      have := h.here
      unfold rowD at this
      rw [this]
      have : r.ms.filter (isDue (r.now + (9 + 1))) = [] := List.filter_eq_nil_iff.2 fun m hm => by
        have := h.bnd m hm
        unfold isDue
        simp
        omega
      rw [this]; rfl
    · have e0 : t.now + 1 + d = t.now + (d + 1) := by omega
      rw [e0]
      exact h.row (d + 1) (by omega) (by omega)
  · have := h.bnd m (List.mem_filter.1 hm).1
    show m.at' ≤ r.now + 1 + 9 ∧ m.ag ≤ r.now + 1 + 9 ∧ _
    omega
theorem Rel.tick {t : Nt} {r : RNt} (h : Rel t r) : Rel (NwM.tick t).1 (rtick r).1 ∧ (NwM.tick t).2 = (rtick r).2 := by
  have := h.row 1 (by omega) (by omega)
  exact Rel.fold (arrs t) (rdue r) (NwM.beg t) (rbeg r) [] this h.beg
theorem Rel.calm {t : Nt} {r : RNt} (h : Rel t r) : Rel (NwM.calm t) (rcalm r) := ⟨h.now, rfl, h.ac, h.len, (fun f hf => by cases hf), h.here, h.row, h.bnd⟩
/-! How many are on their way. -/
def ind (a n d : Nat) : Nat := if a = n + d then 1 else 0
theorem ind_sum {a n : Nat} (h : a ≤ n + 9) : ind a n 1 + ind a n 2 + ind a n 3 + ind a n 4 + ind a n 5 + ind a n 6 + ind a n 7 + ind a n 8 + ind a n 9 = if n < a then 1 else 0 := by
  by_cases q : n < a
  · rw [if_pos q]
    obtain ⟨k, rfl⟩ : ∃ k, a = n + k := ⟨a - n, by omega⟩
    have e : ∀ d, ind (n + k) n d = if k = d then 1 else 0 := fun d => by
      unfold ind
      by_cases e : k = d
      · rw [if_pos e, if_pos (by omega)]
      · rw [if_neg e, if_neg (by omega)]
    simp only [e]
    match k, (show 1 ≤ k by omega), (show k ≤ 9 by omega) with
    | 1, _, _ => rfl
    | 2, _, _ => rfl
    | 3, _, _ => rfl
    | 4, _, _ => rfl
    | 5, _, _ => rfl
    | 6, _, _ => rfl
    | 7, _, _ => rfl
    | 8, _, _ => rfl
    | 9, _, _ => rfl
  · rw [if_neg q]
    have e : ∀ d, 1 ≤ d → ind a n d = 0 := fun d hd => by unfold ind; rw [if_neg (by omega)]
    rw [e 1 (by omega), e 2 (by omega), e 3 (by omega), e 4 (by omega), e 5 (by omega), e 6 (by omega), e 7 (by omega), e 8 (by omega), e 9 (by omega)]
theorem due_one {m : Ms} {n d : Nat} (h : m.at' ≠ m.ag) : ([m].filter (isDue (n + d))).length = ind m.at' n d + ind m.ag n d := by
  unfold ind
  by_cases q1 : m.at' = n + d
  · rw [if_pos q1, if_neg (by omega), List.filter_cons_of_pos (by unfold isDue; simp [q1])]; rfl
  · by_cases q2 : m.ag = n + d
    · rw [if_neg q1, if_pos q2, List.filter_cons_of_pos (by unfold isDue; simp [q2])]; rfl
    · rw [if_neg q1, if_neg q2, List.filter_cons_of_neg (by unfold isDue; simp [q1, q2])]; rfl
theorem rfly_sum {n : Nat} : ∀ ms : List Ms, (∀ m ∈ ms, m.at' ≤ n + 9 ∧ m.ag ≤ n + 9 ∧ m.at' ≠ m.ag) → (ms.map (fly1 n)).sum = (ms.filter (isDue (n + 1))).length + (ms.filter (isDue (n + 2))).length + (ms.filter (isDue (n + 3))).length + (ms.filter (isDue (n + 4))).length + (ms.filter (isDue (n + 5))).length + (ms.filter (isDue (n + 6))).length + (ms.filter (isDue (n + 7))).length + (ms.filter (isDue (n + 8))).length + (ms.filter (isDue (n + 9))).length
  | [], _ => rfl
  | m :: ms, h => by
    have ih := rfly_sum ms (fun x hx => h x (List.mem_cons_of_mem _ hx))
    obtain ⟨b1, b2, b3⟩ := h m (List.mem_cons_self ..)
    have s1 := ind_sum b1
    have s2 := ind_sum b2
    have key : ∀ d, ((m :: ms).filter (isDue (n + d))).length = ind m.at' n d + ind m.ag n d + (ms.filter (isDue (n + d))).length := fun d => by
      have : m :: ms = [m] ++ ms := rfl
      rw [this, List.filter_append, List.length_append, due_one b3]
    rw [List.map_cons, List.sum_cons, key 1, key 2, key 3, key 4, key 5, key 6, key 7, key 8, key 9, ih]
    have : fly1 n m = (if n < m.at' then 1 else 0) + (if n < m.ag then 1 else 0) := rfl
    omega
theorem ten_sum (fl : List (List Pk)) (h : fl.length = 10) (n : Nat) : (fl.map List.length).sum = (fl.getD ((n + 0) % 10) []).length + (fl.getD ((n + 1) % 10) []).length + (fl.getD ((n + 2) % 10) []).length + (fl.getD ((n + 3) % 10) []).length + (fl.getD ((n + 4) % 10) []).length + (fl.getD ((n + 5) % 10) []).length + (fl.getD ((n + 6) % 10) []).length + (fl.getD ((n + 7) % 10) []).length + (fl.getD ((n + 8) % 10) []).length + (fl.getD ((n + 9) % 10) []).length := by
  match fl, h with
  | [a0, a1, a2, a3, a4, a5, a6, a7, a8, a9], _ =>
    have e : ∀ d, (n + d) % 10 = (n % 10 + d) % 10 := fun d => by omega
    have hc : n % 10 < 10 := by omega
    rw [e 0, e 1, e 2, e 3, e 4, e 5, e 6, e 7, e 8, e 9]
    generalize n % 10 = c at *
    match c, hc with
    | 0, _ => simp; omega
    | 1, _ => simp; omega
    | 2, _ => simp; omega
    | 3, _ => simp; omega
    | 4, _ => simp; omega
    | 5, _ => simp; omega
    | 6, _ => simp; omega
    | 7, _ => simp; omega
    | 8, _ => simp; omega
    | 9, _ => simp; omega
theorem Rel.fly {t : Nt} {r : RNt} (h : Rel t r) : flying t = rfly r := by
  unfold flying rfly
  rw [rfly_sum r.ms h.bnd, ten_sum t.fl h.len t.now]
  have k : ∀ d, 1 ≤ d → d ≤ 9 → (t.fl.getD ((t.now + d) % 10) []).length = (r.ms.filter (isDue (r.now + d))).length := fun d h1 h9 => by
    have := congrArg List.length (h.row d h1 h9)
    rw [List.length_map, List.length_map] at this
    exact this
  have k0 : (t.fl.getD ((t.now + 0) % 10) []).length = 0 := by have := h.here; unfold rowD at this; rw [this]; rfl
  rw [k0, k 1 (by omega) (by omega), k 2 (by omega) (by omega), k 3 (by omega) (by omega), k 4 (by omega) (by omega), k 5 (by omega) (by omega), k 6 (by omega) (by omega), k 7 (by omega) (by omega), k 8 (by omega) (by omega), k 9 (by omega) (by omega), Nat.zero_add]
end NwM
end Go.Proofs.Ytcnhcdlbippjoaa
