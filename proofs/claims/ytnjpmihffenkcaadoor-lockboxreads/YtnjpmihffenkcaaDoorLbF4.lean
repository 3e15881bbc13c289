/-
  Ours: a file cut into lines, each held against its form by itself, reads as the file read from its front (pure).
-/
import Derived.Test.YtnjpmihffenkcaaDoorLbF2
namespace Go.Proofs.YtnjpmihffenkcaaDoor
namespace LbF
open LbM CalM
/-- The lines that end, and what is left behind them. -/
def cutA : List Nat → List Nat → List (List Nat) × List Nat
  | acc, [] => ([], acc)
  | acc, c :: r => if c = 10 then (acc :: (cutA [] r).1, (cutA [] r).2) else cutA (acc ++ [c]) r
def cutL (bs : List Nat) : List (List Nat) × List Nat := cutA [] bs
theorem cutA_line : ∀ (ln : List Nat) (acc r : List Nat), (∀ c ∈ ln, c ≠ 10) → cutA acc (ln ++ 10 :: r) = ((acc ++ ln) :: (cutL r).1, (cutL r).2)
  | [], acc, r, _ => by simp [cutA, cutL]
  | c :: ln, acc, r, h => by
    rw [List.cons_append, cutA, if_neg (h c List.mem_cons_self), cutA_line ln (acc ++ [c]) r (fun d hd => h d (List.mem_cons_of_mem _ hd))]
    simp
theorem cutA_none : ∀ (ln : List Nat) (acc : List Nat), (∀ c ∈ ln, c ≠ 10) → cutA acc ln = ([], acc ++ ln)
  | [], acc, _ => by simp [cutA]
  | c :: ln, acc, h => by
    rw [cutA, if_neg (h c List.mem_cons_self), cutA_none ln (acc ++ [c]) (fun d hd => h d (List.mem_cons_of_mem _ hd))]
    simp
/-- Every file is a line and the rest, or has no line. -/
theorem split10 : ∀ (bs : List Nat), (∀ c ∈ bs, c ≠ 10) ∨ ∃ ln r, bs = ln ++ 10 :: r ∧ ∀ c ∈ ln, c ≠ 10
  | [] => .inl (fun c hc => nomatch hc)
  | c :: bs => by
    by_cases hc : c = 10
    · exact .inr ⟨[], bs, by rw [hc]; rfl, fun c hc => nomatch hc⟩
    · rcases split10 bs with h | ⟨ln, r, h1, h2⟩
      · refine .inl (fun d hd => ?_)
        rcases List.mem_cons.1 hd with rfl | hd
        · exact hc
        · exact h d hd
      · refine .inr ⟨c :: ln, r, by rw [h1]; rfl, fun d hd => ?_⟩
        rcases List.mem_cons.1 hd with rfl | hd
        · exact hc
        · exact h2 d hd
theorem first10 : ∀ {a b r s : List Nat}, (∀ c ∈ a, c ≠ 10) → (∀ c ∈ b, c ≠ 10) → a ++ 10 :: r = b ++ 10 :: s → a = b ∧ r = s
  | [], [], r, s, _, _, h => by
    injection h with _ h
    exact ⟨rfl, h⟩
  | [], c :: b, r, s, _, hb, h => by
    injection h with h _
    exact absurd h.symm (hb c List.mem_cons_self)
  | c :: a, [], r, s, ha, _, h => by
    injection h with h _
    exact absurd h (ha c List.mem_cons_self)
  | c :: a, d :: b, r, s, ha, hb, h => by
    injection h with h1 h2
    obtain ⟨e1, e2⟩ := first10 (fun x hx => ha x (List.mem_cons_of_mem _ hx)) (fun x hx => hb x (List.mem_cons_of_mem _ hx)) h2
    exact ⟨by rw [h1, e1], e2⟩
/-- A line of a form. -/
def fm (k : Nat) (ln : List Nat) : Prop := ln.length = (wid k).sum + 1 ∧ ln.head? = some (ltr k) ∧ ∀ c ∈ ln.tail, isDg c
instance (k : Nat) (ln : List Nat) : Decidable (fm k ln) := by unfold fm; infer_instance
def spN : List Nat → List Nat → List Nat
  | [], _ => []
  | w :: ws, bs => numD (bs.take w) :: spN ws (bs.drop w)
def fN (k : Nat) (ln : List Nat) : List Nat := spN (wid k) ln.tail
theorem sp_flds : ∀ (ws bs : List Nat), bs.length = ws.sum → (∀ c ∈ bs, isDg c) → flds ws (spN ws bs) = bs ∧ fits ws (spN ws bs)
  | [], bs, h, _ => by
    have : bs = [] := List.eq_nil_of_length_eq_zero (by simpa using h)
    subst this
    exact ⟨rfl, trivial⟩
  | w :: ws, bs, h, hd => by
    rw [List.sum_cons] at h
    have hl : (bs.take w).length = w := by rw [List.length_take]; omega
    have h1 : ∀ c ∈ bs.take w, isDg c := fun c hc => hd c (List.mem_of_mem_take hc)
    have h2 : ∀ c ∈ bs.drop w, isDg c := fun c hc => hd c (List.mem_of_mem_drop hc)
    obtain ⟨e1, e2⟩ := sp_flds ws (bs.drop w) (by rw [List.length_drop]; omega) h2
    have e3 := dgT_num h1
    have e4 := numD_lt _ h1
    rw [hl] at e3 e4
    refine ⟨?_, e4, e2⟩
    rw [spN, flds, e1, e3, List.take_append_drop]
theorem flds_dg : ∀ (ws ns : List Nat), ∀ c ∈ flds ws ns, isDg c
  | w :: ws, n :: ns, c, h => by
    rw [flds] at h
    rcases List.mem_append.1 h with h | h
    · exact dgT_b n w c h
    · exact flds_dg ws ns c h
  | [], _, c, h => by simp [flds] at h
  | _ :: _, [], c, h => by simp [flds] at h
theorem ltr_ne (k : Nat) : ltr k ≠ 10 := by unfold ltr; split <;> (try split) <;> decide
theorem dg_ne {c : Nat} (h : isDg c) : c ≠ 10 := by unfold isDg at h; omega
theorem rdL_line {k : Nat} {ln r : List Nat} (h : ∀ c ∈ ln, c ≠ 10) : rdL k (ln ++ 10 :: r) = if fm k ln then some (fN k ln, r) else none := by
  split
  · rename_i hf
    obtain ⟨h1, h2, h3⟩ := hf
    cases ln with
    | nil => cases h2
    | cons c ln =>
      injection h2 with h2
      have h3' : ∀ c ∈ ln, isDg c := h3
      obtain ⟨e1, e2⟩ := sp_flds (wid k) ln (by simpa using h1) h3'
      refine rdL_iff.2 ⟨?_, e2⟩
      unfold lin fN
      rw [List.tail_cons, e1, h2]
      simp
  · rename_i hf
    cases hq : rdL k (ln ++ 10 :: r) with
    | none => rfl
    | some p =>
      obtain ⟨ns, r1⟩ := p
      obtain ⟨e1, e2⟩ := rdL_iff.1 hq
      refine absurd ?_ hf
      have hl : ∀ c ∈ ltr k :: flds (wid k) ns, c ≠ 10 := fun c hc => by
        rcases List.mem_cons.1 hc with rfl | hc
        · exact ltr_ne k
        · exact dg_ne (flds_dg _ _ c hc)
      have e3 : ln ++ 10 :: r = (ltr k :: flds (wid k) ns) ++ 10 :: r1 := by rw [e1]; unfold lin; simp
      obtain ⟨e4, _⟩ := first10 h hl e3
      subst e4
      exact ⟨by rw [List.length_cons, flds_len _ _ e2], rfl, fun c hc => flds_dg _ _ c hc⟩
theorem rdL_no {k : Nat} {bs : List Nat} (h : ∀ c ∈ bs, c ≠ 10) : rdL k bs = none := by
  cases hq : rdL k bs with
  | none => rfl
  | some p =>
    obtain ⟨ns, r1⟩ := p
    obtain ⟨e1, _⟩ := rdL_iff.1 hq
    refine absurd rfl (h 10 ?_)
    rw [e1]
    unfold lin
    simp
/-! The document's reading, line by line. -/
def qHead (ln : List Nat) : Option (Int × Int) := if fm 0 ln then match fN 0 ln with
  | [y, m, d, n] => if Ok y m d ∧ n ≠ 0 then some (dA y m + d, (n : Int)) else none
  | _ => none else none
def qDet (i : Nat) (ln : List Nat) : Except Nat It := if fm 1 ln then match fN 1 ln with
  | [s, l, c, a] => if l = 0 ∨ a = 0 then .error 200 else if c ≠ cd6 l then .error 201 else if s ≠ i then .error 202 else .ok ⟨l, a⟩
  | _ => .error 200 else .error 200
def qGo (left : Bool) : List (List Nat) → Nat → List It → Except (Nat × Nat) (List It)
  | [], k, _ => .error (200, k)
  | ln :: ls, k, l => if 9999 < k ∨ 1 < k ∧ ln.head? = some 84 then
      (if ¬ fm 2 ln then .error (200, k) else if fN 2 ln ≠ totN l then .error (203, k) else if left = true ∨ ls ≠ [] then .error (200, k + 1) else .ok l)
    else match qDet k ln with
      | .error e => .error (e, k)
      | .ok x => qGo left ls (k + 1) (l ++ [x])
def qParse (bs : List Nat) : Except (Nat × Nat) Bt := match (cutL bs).1 with
  | [] => .error (200, 0)
  | ln :: ls => match qHead ln with
    | none => .error (200, 0)
    | some (d, n) => match qGo (decide ((cutL bs).2 ≠ [])) ls 1 [] with
      | .error e => .error e
      | .ok l => .ok ⟨d, n, l⟩
theorem rdHead_line {ln r : List Nat} (h : ∀ c ∈ ln, c ≠ 10) : rdHead (ln ++ 10 :: r) = (qHead ln).map fun p => (p.1, p.2, r) := by
  unfold rdHead qHead
  rw [rdL_line h]
  by_cases hf : fm 0 ln
  · rw [if_pos hf, if_pos hf]
    generalize fN 0 ln = ns
    match ns with
    | [y, m, d, n] =>
      show (if Ok (y : Int) m d ∧ n ≠ 0 then some (dA y m + d, (n : Int), r) else none) = Option.map (fun p : Int × Int => (p.1, p.2, r)) (if Ok (y : Int) m d ∧ n ≠ 0 then some (dA y m + d, (n : Int)) else none)
      split <;> rfl
    | [] => rfl
    | [_] => rfl
    | [_, _] => rfl
    | [_, _, _] => rfl
    | _ :: _ :: _ :: _ :: _ :: _ => rfl
  · rw [if_neg hf, if_neg hf]
    rfl
theorem rdHead_no {bs : List Nat} (h : ∀ c ∈ bs, c ≠ 10) : rdHead bs = none := by
  unfold rdHead
  rw [rdL_no h]
theorem rdDet_line {i : Nat} {ln r : List Nat} (h : ∀ c ∈ ln, c ≠ 10) : rdDet i (ln ++ 10 :: r) = (qDet i ln).map fun x => (x, r) := by
  unfold rdDet qDet
  rw [rdL_line h]
  by_cases hf : fm 1 ln
  · rw [if_pos hf, if_pos hf]
    generalize fN 1 ln = ns
    match ns with
    | [s, l, c, a] =>
      show (if l = 0 ∨ a = 0 then Except.error 200 else if c ≠ cd6 l then .error 201 else if s ≠ i then .error 202 else .ok ((⟨(l : Int), (a : Int)⟩ : It), r)) = Except.map (fun x => (x, r)) (if l = 0 ∨ a = 0 then Except.error 200 else if c ≠ cd6 l then .error 201 else if s ≠ i then .error 202 else .ok (⟨(l : Int), (a : Int)⟩ : It))
      split
      · rfl
      · split
        · rfl
        · split <;> rfl
    | [] => rfl
    | [_] => rfl
    | [_, _] => rfl
    | [_, _, _] => rfl
    | _ :: _ :: _ :: _ :: _ :: _ => rfl
  · rw [if_neg hf, if_neg hf]
    rfl
theorem rdDet_no {i : Nat} {bs : List Nat} (h : ∀ c ∈ bs, c ≠ 10) : rdDet i bs = .error 200 := by
  unfold rdDet
  rw [rdL_no h]
def fin2 (l : List It) (p : Except (Nat × Nat) (List It × List Nat)) : Except (Nat × Nat) (List It) := match p with
  | .error e => .error e
  | .ok (l2, r) => (rdTrail (l ++ l2) r).map fun _ => l ++ l2
theorem cut_nil {r : List Nat} : ((cutL r).2 ≠ [] ∨ (cutL r).1 ≠ []) ↔ r ≠ [] := by
  rcases split10 r with h | ⟨ln, s, e, h⟩
  · unfold cutL
    rw [cutA_none r [] h]
    simp
  · unfold cutL
    rw [e, cutA_line ln [] s h]
    simp
theorem trail_line {l : List It} {ln r : List Nat} (h : ∀ c ∈ ln, c ≠ 10) : rdTrail l (ln ++ 10 :: r) = if ¬ fm 2 ln then .error (200, l.length + 1) else if fN 2 ln ≠ totN l then .error (203, l.length + 1) else if r ≠ [] then .error (200, l.length + 2) else .ok () := by
  unfold rdTrail
  rw [rdL_line h]
  by_cases hf : fm 2 ln
  · rw [if_pos hf, if_neg (by simpa using hf)]
  · rw [if_neg hf, if_pos hf]
theorem trail_no {l : List It} {bs : List Nat} (h : ∀ c ∈ bs, c ≠ 10) : rdTrail l bs = .error (200, l.length + 1) := by
  unfold rdTrail
  rw [rdL_no h]
theorem head_line {ln r : List Nat} (h : (ln ++ 10 :: r).head? = some 84) : ln.head? = some 84 := by
  cases ln with
  | nil => simp at h
  | cons c ln => simpa using h
theorem trail_q {l : List It} {ln s : List Nat} {k : Nat} : (if ¬ fm 2 ln then Except.error (200, k) else if fN 2 ln ≠ totN l then .error (203, k) else if decide ((cutL s).2 ≠ []) = true ∨ (cutL s).1 ≠ [] then .error (200, k + 1) else .ok l : Except (Nat × Nat) (List It)) = Except.map (fun _ => l) (if ¬ fm 2 ln then .error (200, k) else if fN 2 ln ≠ totN l then .error (203, k) else if s ≠ [] then .error (200, k + 1) else .ok () : Except (Nat × Nat) Unit) := by
  by_cases h1 : fm 2 ln
  · rw [if_neg (c := ¬ fm 2 ln) (by simpa using h1), if_neg (c := ¬ fm 2 ln) (by simpa using h1)]
    by_cases h2 : fN 2 ln = totN l
    · rw [if_neg (c := fN 2 ln ≠ totN l) (by simpa using h2), if_neg (c := fN 2 ln ≠ totN l) (by simpa using h2)]
      by_cases h3 : s = []
      · rw [if_neg (c := decide ((cutL s).2 ≠ []) = true ∨ (cutL s).1 ≠ []) (by rw [decide_eq_true_eq, cut_nil]; simpa using h3), if_neg (c := s ≠ []) (by simpa using h3)]
        rfl
      · rw [if_pos (c := decide ((cutL s).2 ≠ []) = true ∨ (cutL s).1 ≠ []) (by rw [decide_eq_true_eq, cut_nil]; exact h3), if_pos (c := s ≠ []) h3]
        rfl
    · rw [if_pos (c := fN 2 ln ≠ totN l) h2, if_pos (c := fN 2 ln ≠ totN l) h2]
      rfl
  · rw [if_pos (c := ¬ fm 2 ln) h1, if_pos (c := ¬ fm 2 ln) h1]
    rfl
theorem go_is : ∀ (f i : Nat) (l : List It) (bs : List Nat), f + i = 9999 → l.length = i → qGo (decide ((cutL bs).2 ≠ [])) (cutL bs).1 (i + 1) l = fin2 l (rdDets f i bs)
  | 0, i, l, bs, hf, hl => by
    obtain rfl : i = 9999 := by omega
    show _ = (rdTrail (l ++ []) bs).map fun _ => l ++ []
    rw [List.append_nil]
    rcases split10 bs with h | ⟨ln, s, e, h⟩
    · rw [trail_no h, hl]
      unfold cutL
      rw [cutA_none bs [] h]
      rfl
    · subst e
      rw [trail_line h, hl]
      have ec : cutL (ln ++ 10 :: s) = (ln :: (cutL s).1, (cutL s).2) := cutA_line ln [] s h
      rw [ec]
      unfold qGo
      rw [if_pos (.inl (by omega))]
      exact trail_q
  | f + 1, i, l, bs, hf, hl => by
    rcases split10 bs with h | ⟨ln, s, e, h⟩
    · have ec : cutL bs = ([], bs) := by unfold cutL; rw [cutA_none bs [] h]; rfl
      rw [ec]
      unfold qGo rdDets
      by_cases hc : 0 < i ∧ bs.head? = some 84
      · rw [if_pos hc]
        show _ = (rdTrail (l ++ []) bs).map _
        rw [List.append_nil, trail_no h, hl]
        rfl
      · rw [if_neg hc, rdDet_no h]
        rfl
    · subst e
      have ec : cutL (ln ++ 10 :: s) = (ln :: (cutL s).1, (cutL s).2) := cutA_line ln [] s h
      rw [ec]
      unfold qGo rdDets
      by_cases hc : 0 < i ∧ (ln ++ 10 :: s).head? = some 84
      · rw [if_pos hc, if_pos (.inr ⟨by omega, head_line hc.2⟩)]
        show _ = (rdTrail (l ++ []) (ln ++ 10 :: s)).map fun _ => l ++ []
        rw [List.append_nil, trail_line h, hl]
        exact trail_q
      · have hc2 : ¬ (9999 < i + 1 ∨ 1 < i + 1 ∧ ln.head? = some 84) := by
          rintro (h1 | ⟨h1, h2⟩)
          · omega
          · refine hc ⟨by omega, ?_⟩
            cases ln with
            | nil => cases h2
            | cons c ln => simpa using h2
        rw [if_neg hc, if_neg hc2, rdDet_line h]
        cases hq : qDet (i + 1) ln with
        | error e => rfl
        | ok x =>
          have ih := go_is f (i + 1) (l ++ [x]) s (by omega) (by simp [hl])
          show qGo (decide ((cutL s).2 ≠ [])) (cutL s).1 (i + 1 + 1) (l ++ [x]) = fin2 l ((rdDets f (i + 1) s).map fun p => (x :: p.1, p.2))
          rw [ih]
          cases hd : rdDets f (i + 1) s with
          | error e => rfl
          | ok p =>
            obtain ⟨l2, r⟩ := p
            show Except.map _ (rdTrail (l ++ [x] ++ l2) r) = Except.map _ (rdTrail (l ++ x :: l2) r)
            rw [show l ++ [x] ++ l2 = l ++ x :: l2 by simp]
theorem qParse_is (bs : List Nat) : qParse bs = parse bs := by
  unfold qParse parse
  rcases split10 bs with h | ⟨ln, s, e, h⟩
  · have ec : cutL bs = ([], bs) := by unfold cutL; rw [cutA_none bs [] h]; rfl
    rw [ec, rdHead_no h]
  · subst e
    have ec : cutL (ln ++ 10 :: s) = (ln :: (cutL s).1, (cutL s).2) := cutA_line ln [] s h
    rw [ec, rdHead_line h]
    show (match qHead ln with | none => Except.error (200, 0) | some (d, n) => match qGo (decide ((cutL s).2 ≠ [])) (cutL s).1 1 [] with | .error e => Except.error e | .ok l => .ok (⟨d, n, l⟩ : Bt)) = _
    cases hq : qHead ln with
    | none => rfl
    | some p =>
      obtain ⟨d, n⟩ := p
      have g := go_is 9999 0 [] s rfl rfl
      show (match qGo (decide ((cutL s).2 ≠ [])) (cutL s).1 (0 + 1) [] with | .error e => Except.error e | .ok l => .ok (⟨d, n, l⟩ : Bt)) = (match rdDets 9999 0 s with | .error e => Except.error e | .ok (l, r') => match rdTrail l r' with | .error e => .error e | .ok _ => .ok (⟨d, n, l⟩ : Bt))
      rw [g]
      cases hd : rdDets 9999 0 s with
      | error e => rfl
      | ok p =>
        obtain ⟨l, r⟩ := p
        show (match Except.map (fun _ => [] ++ l) (rdTrail ([] ++ l) r) with | .error e => Except.error e | .ok l => .ok (⟨d, n, l⟩ : Bt)) = (match rdTrail l r with | .error e => Except.error e | .ok _ => .ok (⟨d, n, l⟩ : Bt))
        rw [List.nil_append]
        cases rdTrail l r <;> rfl
end LbF
end Go.Proofs.YtnjpmihffenkcaaDoor
